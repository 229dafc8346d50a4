/-
  A new order accepted by the engine: proved by walking the method.
-/
import Derived.Test.YtbakanofkghmiaaGreatWj22
set_option linter.unusedVariables false
set_option maxHeartbeats 6400000
set_option maxRecDepth 100000
namespace Go.Proofs.YtbakanofkghmiaaGreat
open Go.RowKit
def accL (c:Cm) (next:Int) (hb:List Od × Int × List Ev):List Od:=if 0 < hb.2.1∧aO c.t = true then hb.1 ++ [⟨next,c.s,tk c.p,hb.2.1,c.l,c.g⟩] else hb.1
def accE (c:Cm) (next:Int) (hb:List Od × Int × List Ev):List Ev:=⟨1,⟨1,c.s,c.t,c.l,c.q,0,c.p,c.g⟩,next,0,0,0,0⟩ :: hb.2.2 ++ (if 0 < hb.2.1 then [⟨if aO c.t = true then 4 else 5,zCm,next,0,hb.2.1,0,0⟩] else [])
theorem zH {B C e sz n:Nat} {v:Value} {xs:List Value} {W:World} (h:W.ownsRow B e sz v n xs) (hC:C ≤ B):W.ownsRow C e sz v n xs:=by
 refine ⟨h.1,?_⟩
 rcases h.2 with hn | ⟨g,A,xr,rfl,hg,rest⟩
 ·exact .inl hn
 ·exact .inr ⟨g,A,xr,rfl,yN hC hg,rest⟩
theorem ens_raise {mb B Bo C:Nat} {W:World} {gv:Value} {gs:List Value} {gl:List (List Ev)} {next:Int} {vq:Value} {l:List Od} {t:Tot} (h:EnS mb B Bo W gv gs gl next vq l t (.slice none 0 0) []) (G:Bo ≤ C) (E:C ≤ W.heap.size):EnS mb B C W gv gs gl next vq l t (.slice none 0 0) [] :=
 ⟨h.cells,h.there,h.grow,h.glen,h.geach,⟨fun g hg b F=>yJ (h.glt.1 g hg b F) G,h.glt.2⟩,h.orow,World.ownsRow_nil _ _ _ _,h.box,yN h.bo G,E⟩
theorem ens_next {mb B Bo:Nat} {W:World} {gv:Value} {gs:List Value} {gl:List (List Ev)} {next:Int} {vq:Value} {l:List Od} {t:Tot} {vo:Value} {ts:List Ev} (h:EnS mb B Bo W gv gs gl next vq l t vo ts) (m:Int):EnS mb B Bo (W.setCell (J mb 1) (H m)) gv gs gl m vq l t vo ts:=by
 refine ⟨?_,zE h.there,zu h.grow (zl h.grow h.box (by decide)) _ _,h.glen,fun i g es hg vh=>zu (h.geach i g es hg vh) (zl (h.geach i g es hg vh) h.box (by decide)) _ _,h.glt,zu h.orow (zl h.orow h.box (by decide)) _ _,zu h.erow (zl h.erow h.box (by decide)) _ _,?_,h.bo,by simp only [World.setCell,Array.size_modify]; exact h.le⟩
 ·have:=cH (j:=1) (u:=H m) h.cells (by simp)
  exact this
 ·obtain ⟨xr,hc⟩:=h.box
  exact zO W mb 1 _ hc
theorem dy {c:Cm} {id:Int}:∀ (n:Nat) (l:List Od) (left:Int) (ts:List Ev),(matL c id n l left ts).2.2.length ≤ ts.length + n
 | 0,_,_,_=>Nat.le_refl _
 | n + 1,l,left,ts=>by
  rw [matL]
  split
  ·split
   ·simp
   ·split
    ·refine yN (dy n _ _ _) ?_
     rw [yP]; simp; omega
    ·simp
  ·simp
theorem matS_kept {mb b S:Nat} {W W':World} {next:Int} {vq vt:Value} {l:List Od} {t:Od} {ts:List Ev} (h:MatS b S W next vq l t vt ts) (hk:KeptBut mb W.heap.size W W') (hm:mb < S) (F:S ≤ b):MatS b S W' next vq l t vt ts:=by
 have aD:=hk.block b h.lt (by omega)
 refine ⟨fun j u K=>(yQ (a:=(J b (0 + j))) aD).trans (h.cells j u K),fun j K=>⟨?_,?_⟩,kb_row h.orow hk hm,kb_row h.erow hk hm,?_,yN h.le hk.size⟩
 ·rw [yQ (a:=(J b (0 + j))) aD]; exact (h.there j K).1
 ·rw [World.frozen?_of_block (a:=(J b (0 + j))) aD]; exact (h.there j K).2
 ·obtain ⟨xr,hc⟩:=h.box
  exact ⟨xr,aD.trans hc⟩
theorem kept_less {mb B C:Nat} {w w':World} (h:KeptBut mb C w w') (hB:B ≤ C):KeptBut mb B w w':=⟨h.os,h.tape,h.output,h.size,fun k hk hm=>h.block k (by omega) hm⟩
theorem ens_far {mb B Bo b S:Nat} {W W':World} {gv:Value} {gs:List Value} {gl:List (List Ev)} {next n2:Int} {vq:Value} {l:List Od} {t:Tot} {vo:Value} {ts:List Ev} {vm vt:Value} {lm:List Od} {tm:Od} {tt:List Ev} (h:EnS mb B Bo W gv gs gl next vq l t vo ts) (hM:MatS b S W n2 vm lm tm vt tt) (ht:TookAt b 0 vm.ownBlock W W') (hq:∀ g,vq.ownBlock = some g→g < S) (hm:mb < S) (F:S ≤ b):EnS mb B Bo W' gv gs gl next vq l t vo ts:=by
 have aD:W'.heap[mb]? = W.heap[mb]?:=ht.block mb h.lt (by omega) (zl hM.orow h.box (by decide))
 refine ⟨fun j u K=>(yQ (a:=(J mb (0 + j))) aD).trans (h.cells j u K),fun j K=>⟨?_,?_⟩,br h.grow ht (zl h.grow hM.box (by decide)) (zD h.grow hM.orow (by decide)),h.glen,fun i g es hg vh=>br (h.geach i g es hg vh) ht (zl (h.geach i g es hg vh) hM.box (by decide)) (zD (h.geach i g es hg vh) hM.orow (by decide)),h.glt,br h.orow ht (zl h.orow hM.box (by decide)) ?_,br h.erow ht (zl h.erow hM.box (by decide)) (zD h.erow hM.orow (by decide)),?_,h.bo,yN h.le ht.size⟩
 ·rw [yQ (a:=(J mb (0 + j))) aD]; exact (h.there j K).1
 ·rw [World.frozen?_of_block (a:=(J mb (0 + j))) aD]; exact (h.there j K).2
 ·cases e:vq.ownBlock with
  | none=>exact .inl rfl
  | some g=>exact .inr fun e'=>by have:=hq g e; have:=(hM.orow.lt g e'.symm).1; omega
 ·obtain ⟨xr,hc⟩:=h.box
  exact ⟨xr,aD.trans hc⟩
theorem zT {B e sz n:Nat} {v:Value} {xs:List Value} {W:World} (h:W.ownsRow B e sz v n xs):∃ a c,v = .slice a n c:=by
 rcases h.2 with ⟨e,e2⟩ | ⟨g,A,xr,e,_⟩
 ·exact ⟨none,0,by rw [e,e2]⟩
 ·exact ⟨_,_,e⟩
theorem matS_told {mb b S Bo:Nat} {W W':World} {next:Int} {vq vt vo:Value} {l:List Od} {t:Od} {ts es:List Ev} (h:MatS b S W next vq l t vt ts) (ht:TookAt mb 10 vo.ownBlock W W') (Z:ERow W Bo vo es) (hm:mb < S) (F:S ≤ b) (hvt:∀ g,vt.ownBlock = some g→vo.ownBlock ≠ some g):MatS b S W' next vq l t vt ts:=by
 have aD:W'.heap[b]? = W.heap[b]?:=ht.block b h.lt (by omega) (zl Z h.box (by decide))
 refine ⟨fun j u K=>(yQ (a:=(J b (0 + j))) aD).trans (h.cells j u K),fun j K=>⟨?_,?_⟩,br h.orow ht (fun e=>by have:=(h.orow.lt mb e.symm).1; omega) (zD h.orow Z (by decide)),br h.erow ht (fun e=>by have:=(h.erow.lt mb e.symm).1; omega) ?_,?_,yN h.le ht.size⟩
 ·rw [yQ (a:=(J b (0 + j))) aD]; exact (h.there j K).1
 ·rw [World.frozen?_of_block (a:=(J b (0 + j))) aD]; exact (h.there j K).2
 ·cases e:vt.ownBlock with
  | none=>exact .inl rfl
  | some g=>exact .inr fun e'=>hvt g e e'.symm
 ·obtain ⟨xr,hc⟩:=h.box
  exact ⟨xr,aD.trans hc⟩
theorem ens_book {mb B Bo:Nat} {W:World} {gv:Value} {gs:List Value} {gl:List (List Ev)} {next:Int} {vq vw:Value} {l l':List Od} {t:Tot} {vo:Value} {ts:List Ev} (h:EnS mb B Bo W gv gs gl next vq l t vo ts) (m:Int) (Z:ORow W B vw l'):EnS mb B Bo ((W.setCell (J mb 1) (H m)).setCell (J mb 2) vw) gv gs gl m vw l' t vo ts:=by
 have G:=ens_next h m
 have hn:some mb ≠ vw.ownBlock:=zl Z h.box (by decide)
 have vu:=zu Z hn 1 (H m)
 have ho2:=zu vu hn 2 vw
 exact ens_took G (yM _ _ _ (G.cells 2 _ rfl)) ho2 (dj (o:=1) _ _)
def CAx1 (mb S n A:Nat) (a:Option Addr) (next s ty li O tk0 Fl:Int) (pr:Nat) (L:ByteArray) (FL:List Od) (Ft:List Ev) (W:World):Nat→Value→Prop
 | 0,v=>v = I mb 0
 | 1,v=>v = I mb 0
 | 2,v=>v = I mb 0
 | 3,v=>v = I mb 1
 | 4,v=>v = .agg #[H next,.slice a n A]
 | 5,v=>v = .agg #[H s,H ty,H li,H O,yj pr,yk L]
 | 6,v=>∃ aq cq av cv,v = .agg #[H (next + 1),.slice aq FL.length cq,H next,H s,H tk0,H Fl,H li,yk L,.slice av Ft.length cv]∧ORow W S (.slice aq FL.length cq) FL∧ERow W S (.slice av Ft.length cv) Ft
 | 7,v=>∃ b,v = I b 0∧S ≤ b∧b < W.heap.size∧W.there b 0 9∧∃ xr,W.heap[b]? = some (.cells xr 157 (0,0))
 | _,_=>True
theorem ca1_mono {mb S n A:Nat} {a:Option Addr} {next s ty li O tk0 Fl:Int} {pr:Nat} {L:ByteArray} {FL:List Od} {Ft:List Ev}:∀ W W' j v,yn W W'→CAx1 mb S n A a next s ty li O tk0 Fl pr L FL Ft W j v→CAx1 mb S n A a next s ty li O tk0 Fl pr L FL Ft W' j v:=by
 intro W W' j v F h
 match j with
 | 0 | 1 | 2 | 3 | 4 | 5=>exact h
 | 6=>obtain ⟨aq,cq,av,cv,G,E,h3⟩:=h; exact ⟨aq,cq,av,cv,G,zm E F,zI h3 F⟩
 | 7=>obtain ⟨b,G,E,h3,h4,xr,h5⟩:=h; exact ⟨b,G,E,yJ h3 F.size,zg h4 F h3,xr,(F.block b h3).trans h5⟩
 | j + 8=>trivial
def CQ1 (hR:World) (next s tk0 Fl li:Int) (L:ByteArray) (FL:List Od) (Ft:List Ev) (f:Nat→Value) (W:World):Prop:=∃ b vq vt,f 7 = I b 0∧hR.heap.size ≤ b∧MatS b hR.heap.size W (next + 1) vq FL ⟨next,s,tk0,Fl,li,L⟩ vt Ft∧yn hR W
def CA2 (mb b:Nat) (next s ty li O:Int) (pr:Nat) (L:ByteArray) (W:World):Nat→Value→Prop
 | 0,v=>v = I mb 0
 | 1,v=>v = .agg #[H s,H ty,H li,H O,yj pr,yk L]
 | 2,v=>v = .agg (yw 1 s ty li O 0 pr L).toArray
 | 3,v=>v = I b 2
 | 4,v=>v = I b 2
 | 5,v=>v = H next
 | 6,v=>v = .agg (yu 1 1 s ty li O 0 pr L next 0 0 0 0).toArray
 | _,_=>True
theorem ca2_mono {mb b:Nat} {next s ty li O:Int} {pr:Nat} {L:ByteArray}:∀ W W' j v,yn W W'→CA2 mb b next s ty li O pr L W j v→CA2 mb b next s ty li O pr L W' j v:=by
 intro W W' j v F h
 match j with
 | 0 | 1 | 2 | 3 | 4 | 5 | 6=>exact h
 | j + 7=>trivial
theorem acceptE_any {mb B Bo:Nat} {gv:Value} {gs:List Value} {gl:List (List Ev)} {next:Int} {vq:Value} {l:List Od} {t:Tot} (c:Cm) (w:World) (h:EnS mb B Bo w gv gs gl next vq l t (.slice none 0 0) []) (hg:GoodL l) (h0:0 ≤ next) (G:next ≤ 1000000) (qd:0 ≤ c.q) (qe:c.q ≤ 1000000) :
  Calls Tryz.prog 67 #[I mb 0,noV c] w fun r w'=>r = ym (.tuple #[])∧(∃ Bo' vw qz,EnS mb B Bo' w' gv gs gl (next + 1) vw (accL c next (matL c next 21 l c.q [])) t qz (accE c next (matL c next 21 l c.q [])))∧KeptBut mb B w w':=by
 have qG:=h.lt
 have pM:B ≤ w.heap.size:=yN h.bo h.le
 have vN:=hg.len
 obtain ⟨a,A,rfl,vE,hc⟩:=zN h.orow (by omega)
 have HRD0:=Y (zN h.orow (by omega))
 have HOR:=Y h.orow
 have pg:=Y (cz (c:=c) (id:=next) 21 l c.q [] hg qd qe)
 have HMF:=Y (dy (c:=c) (id:=next) 21 l c.q [])
 obtain ⟨kk,s,ty,li,O,ii,pr,L⟩:=c
 have vP:Hid (SlOk (.slice a l.length A)):=oRow_sl h.orow
 have HCA:Hid (∀ W:World,RdR Od.vs 6 W (.slice a l.length A) l→Calls Tryz.prog 112 #[.agg #[H next,.slice a l.length A],.agg #[H s,H ty,H li,H O,yj pr,yk L]] W _):=fun W hW=>match_any next _ l ⟨kk,s,ty,li,O,ii,pr,L⟩ W hW (U vP) hg h0 G qd qe
 have HTO:Hid (∀ W:World,Calls Tryz.prog 113 #[.agg #[H s,H ty,H li,H O,yj pr,yk L]] W _):=fun W=>toldNew_any ⟨kk,s,ty,li,O,ii,pr,L⟩ W
 have HRS:Hid (∀ W:World,Calls Tryz.prog 114 #[.agg #[H s,H ty,H li,H O,yj pr,yk L]] W _):=fun W=>dT ⟨kk,s,ty,li,O,ii,pr,L⟩ W
 generalize hmat:matL ⟨kk,s,ty,li,O,ii,pr,L⟩ next 21 l O [] = hb at pg HCA HMF ⊢
 obtain ⟨FL,Fl,Ft⟩:=hb
 unfold noV
 simp only at HCA pg HTO HRS HMF ⊢
 have xW:=eD w (eF #[H s,H ty,H li,H O,yj pr,yk L] 112)
 have HE:=Y (zQ h xW)
 have xU:=Y xW
 have xA:w.heap.size < (w.alloc (eF #[H s,H ty,H li,H O,yj pr,yk L] 112)).heap.size:=by rw [zh]; omega
 have je:Hid (World.rangeAt (w.alloc (eF #[H s,H ty,H li,H O,yj pr,yk L] 112)) w.heap.size 0 [H s,H ty,H li,H O,yj pr,yk L]):=zi w [H s,H ty,H li,H O,yj pr,yk L] _
 have jl:=Y (zn (U HRD0) xW qt)
 have uI:Hid (0 ≤ next∧next ≤ 1000000):=⟨h0,G⟩
 clear h xW hc vE hg h0 G qd qe hmat HRD0
 go_enter Tryz.func67,Tryz.ntmps67
 refine eH fun hj xu=>?_
 go_wp2_with fail
 refine U xu _ _ ?_
 clear xu
 generalize (w.alloc (eF #[H s,H ty,H li,H O,yj pr,yk L] 112)) = hR at HE xU xA je jl ⊢
 have qa:Hid (hR.cell? (J mb 1) = some (H next)):=(U HE).cells 1 _ rfl
 have vC:Hid (hR.cell? (J mb 2) = some (.slice a l.length A)):=(U HE).cells 2 _ rfl
 refine eH fun hj xu=>?_
 refine zj (RYA (fun f=>{ tmps:=#[I mb 0,.agg #[H s,H ty,H li,H O,yj pr,yk L],M,yp w 0,f 7,M,M,M,M,f 0,f 1,f 2,f 3,f 4,f 5,f 6,M,M,M,M,M,M,M,M,M,M,M,M,M,M,M,M,M,M,M,M,M,M,M,M,M,M,M,M,M,M,M,M,M,M,M,M,M,M,M,M,M],defers:=[] }) (CAx1 mb hR.heap.size l.length A a next s ty li O (tk pr) Fl pr L FL Ft) 8 (CQ1 hR next s (tk pr) Fl li L FL Ft) hR) (by kernel_rfl) ?_ ?_ ?_
 ·exact ⟨fun _=>M,rfl,ry_start (by decide)⟩
 rotate_left
 ·rintro x xm V i op ⟨f,rfl,X⟩ xo hx Z xy Q
  have xz:=Y X
  have xn:x[8]? = some false→∀ (p:Addr) u,hR.cell? p = some u→V.cell? p = some u:=fun hn p u hu=>((X.b hn).cell (yK hR _ hu)).trans hu
  match i,Z with
  | 0,Z =>
   obtain rfl:=ya Z
   have hn:x[8]? = some false:=zy xo 12 0 8 (by kernel_rfl) hx (by simp) xy
   clear Q X xo
   rw [if_pos (by rfl)];unfold Oper.wp;go_simp
   exact ⟨upd f 0 (I mb 0),by simp [upd],zX (U xz) 0 _ hn (by decide) rfl⟩
  | 1,Z =>
   obtain rfl:=ya Z
   have hn:x[8]? = some false:=zy xo 12 1 8 (by kernel_rfl) hx (by simp) xy
   have g0:f 0 = I mb 0:=X.c hn 0 (ye Q 0 rfl)
   clear Q X xo
   rw [if_pos (by rfl)];unfold Oper.wp;go_simp
   exact ⟨upd f 1 (I mb 0),by simp [upd,g0],zX (U xz) 1 _ hn (by decide) rfl⟩
  | 2,Z =>
   obtain rfl:=ya Z
   have hn:x[8]? = some false:=zy xo 12 2 8 (by kernel_rfl) hx (by simp) xy
   have g1:f 1 = I mb 0:=X.c hn 1 (ye Q 1 rfl)
   clear Q X xo
   rw [if_pos (by rfl)];unfold Oper.wp;go_simp
   exact ⟨upd f 2 (I mb 0),by simp [upd,g1],zX (U xz) 2 _ hn (by decide) rfl⟩
  | 3,Z =>
   obtain rfl:=ya Z
   have hn:x[8]? = some false:=zy xo 12 3 8 (by kernel_rfl) hx (by simp) xy
   have g2:f 2 = I mb 0:=X.c hn 2 (ye Q 2 rfl)
   clear Q X xo
   rw [if_pos (by rfl)];unfold Oper.wp;go_simp
   exact ⟨upd f 3 (I mb 1),by simp [upd,g2],zX (U xz) 3 _ hn (by decide) rfl⟩
  | 4,Z =>
   obtain rfl:=ya Z
   have hn:x[8]? = some false:=zy xo 12 4 8 (by kernel_rfl) hx (by simp) xy
   have g3:f 3 = I mb 1:=X.c hn 3 (ye Q 3 rfl)
   have z1:=xn hn (J mb 1) _ (U qa)
   have z2:=xn hn (J mb 2) _ (U vC)
   clear Q X xo
   rw [if_pos (by rfl)];unfold Oper.wp;go_simp
   exact ⟨upd f 4 (.agg #[H next,.slice a l.length A]),by simp [upd,g3],zX (U xz) 4 _ hn (by decide) rfl⟩
  | 5,Z =>
   obtain rfl:=ya Z
   have hn:x[8]? = some false:=zy xo 12 5 8 (by kernel_rfl) hx (by simp) xy
   have y0:=xn hn (yq w 0) _ (U je 0 _ rfl)
   have y1:=xn hn (yq w 1) _ (U je 1 _ rfl)
   have y2:=xn hn (yq w 2) _ (U je 2 _ rfl)
   have y3:=xn hn (yq w 3) _ (U je 3 _ rfl)
   have y4:=xn hn (yq w 4) _ (U je 4 _ rfl)
   have y5:=xn hn (yq w 5) _ (U je 5 _ rfl)
   clear Q X xo
   rw [if_pos (by rfl)];unfold Oper.wp;go_simp
   exact ⟨upd f 5 (.agg #[H s,H ty,H li,H O,yj pr,yk L]),by simp [upd],zX (U xz) 5 _ hn (by decide) rfl⟩
  | 6,Z =>
   obtain rfl:=ya Z
   have hn:x[8]? = some false:=zy xo 12 6 8 (by kernel_rfl) hx (by simp) xy
   have g4:f 4 = .agg #[H next,.slice a l.length A]:=X.c hn 4 (ye Q 4 rfl)
   have g5:f 5 = .agg #[H s,H ty,H li,H O,yj pr,yk L]:=X.c hn 5 (ye Q 5 rfl)
   have HRV:=Y (zn (U jl) (X.b hn) qt)
   have jb:=(X.b hn).size
   clear Q X xo
   rw [if_pos (by rfl)];unfold Oper.wp;go_simp
   refine (U HCA V (U HRV)).mono ?_
   rintro e w4 ⟨vq4,vt4,rfl,hoq,het,xC⟩
   obtain ⟨av,cv,rfl⟩:∃ a c,vt4 = .slice a Ft.length c:=by
    rcases het.2 with ⟨e,e2⟩ | ⟨g,A,xr,e,_⟩
    ·exact ⟨none,0,by rw [e,e2]⟩
    ·exact ⟨_,_,e⟩
   obtain ⟨aq,cq,rfl⟩:∃ a c,vq4 = .slice a FL.length c:=by
    rcases hoq.2 with ⟨e,e2⟩ | ⟨g,A,xr,e,_⟩
    ·exact ⟨none,0,by rw [e,e2]⟩
    ·exact ⟨_,_,e⟩
   exact ⟨upd f 6 (.agg #[H (next + 1),.slice aq FL.length cq,H next,H s,H (tk pr),H Fl,H li,yk L,.slice av Ft.length cv]),by simp [upd,g4,g5],zX (ry_grow ca1_mono (U xz) hn xC) 6 _ hn (by decide) ⟨aq,cq,av,cv,rfl,zH hoq jb,zH het jb⟩⟩
  | 7,Z =>
   obtain rfl:=ya Z
   have hn:x[8]? = some false:=zy xo 12 7 8 (by kernel_rfl) hx (by simp) xy
   have jb:=(X.b hn).size
   clear Q X xo
   rw [if_pos (by rfl)];unfold Oper.wp;go_simp
   exact ⟨upd f 7 (yp V 0),by simp [upd],zX (ry_grow ca1_mono (U xz) hn (eD _ _)) 7 _ hn (by decide) ⟨V.heap.size,rfl,jb,by rw [zh]; omega,zv V [H 0,.slice none 0 0,H 0,H 0,H 0,H 0,H 0,yk ⟨#[]⟩,.slice none 0 0] _,_,heap_alloc_new V _⟩⟩
  | 8,Z =>
   obtain rfl:=ya Z
   have hn:x[8]? = some false:=xy
   obtain ⟨aq,cq,av,cv,g6,hoq,het⟩:=X.c hn 6 (ye Q 6 rfl)
   obtain ⟨b,g7,hSb,xT,xF,hbox⟩:=X.c hn 7 (ye Q 7 rfl)
   have HQ:Hid (CQ1 hR next s (tk pr) Fl li L FL Ft f (V.setCells b 0 [H (next + 1),.slice aq FL.length cq,H next,H s,H (tk pr),H Fl,H li,yk L,.slice av Ft.length cv])):=⟨b,_,_,g7,hSb,matS_put (t:=⟨next,s,tk pr,Fl,li,L⟩) xF hbox hoq het (X.b hn).size,zo b hSb _ _ _ (X.b hn)⟩
   obtain ⟨y0,z0,q0⟩:=ze xF (j:=0) (by omega)
   obtain ⟨y1,z1,q1⟩:=ze xF (j:=1) (by omega)
   obtain ⟨y2,z2,q2⟩:=ze xF (j:=2) (by omega)
   obtain ⟨y3,z3,q3⟩:=ze xF (j:=3) (by omega)
   obtain ⟨y4,z4,q4⟩:=ze xF (j:=4) (by omega)
   obtain ⟨y5,z5,q5⟩:=ze xF (j:=5) (by omega)
   obtain ⟨y6,z6,q6⟩:=ze xF (j:=6) (by omega)
   obtain ⟨y7,z7,q7⟩:=ze xF (j:=7) (by omega)
   obtain ⟨y8,z8,q8⟩:=ze xF (j:=8) (by omega)
   clear Q X xo xF hoq het hbox
   rw [if_pos (by rfl)];unfold Oper.wp;go_simp
   exact ⟨f,by simp [g6,g7],ry_writeN (U xz) hn (U HQ)⟩
  | n + 9,Z=>simp at Z
 ·rintro x xm V ⟨f,rfl,X⟩ hx xP
  have xp:=zR xP hx (by kernel_rfl)
  obtain ⟨b,vqm,vtm,e7,hSb,hMS,hBX⟩:=X.m (xp 8 (by simp))
  refine U xu _ _ ?_
  clear xu
  simp only [e7]
  generalize f 0 = v0,f 1 = v1,f 2 = v2,f 3 = v3,f 4 = v4,f 5 = v5,f 6 = v6
  have oe:=Y hMS
  have ux:=Y hBX
  clear X xp xP hx hMS hBX e7 jl qa vC HCA
  have hSV:hR.heap.size ≤ V.heap.size:=(U ux).size
  have qg:=Y (ens_raise (zQ (U HE) ((U ux))) (yN (U HE).le hSV) qt)
  have HN6:=Y (zb (U je) (U ux) xA)
  have HMC:=Y (U oe).cells
  have xT:=(U oe).lt
  have az:Hid (KeptBut mb B w V):=zk (zC (U xU) pM) (zC (U ux) (by omega))
  clear HE je
  generalize V = W6 at oe qg HN6 HMC xT az hSV ux ⊢
  refine eH fun hj xu=>?_
  refine zj (RYA (fun f=>{ tmps:=#[I mb 0,.agg #[H s,H ty,H li,H O,yj pr,yk L],M,yp w 0,I b 0,M,M,M,M,v0,v1,v2,v3,v4,v5,v6,f 0,f 1,f 2,f 3,f 4,f 5,f 6,f 7,M,M,M,M,M,M,M,M,M,M,M,M,M,M,M,M,M,M,M,M,M,M,M,M,M,M,M,M,M,M,M,M,M],defers:=[] }) (CA2 mb b next s ty li O pr L) 7 (fun f W=>(∃ qz,EnS mb B W6.heap.size W gv gs gl next (.slice a l.length A) l t qz [⟨1,⟨1,s,ty,li,O,0,pr,L⟩,next,0,0,0,0⟩])∧KeptBut mb W6.heap.size W6 W) W6) (by kernel_rfl) ?_ ?_ ?_
  ·exact ⟨fun _=>M,rfl,ry_start (by decide)⟩
  rotate_left
  ·rintro x xm V2 i op ⟨f,rfl,X⟩ xo hx Z xy Q
   have xz:=Y X
   have xn:x[7]? = some false→∀ (p:Addr) u,W6.cell? p = some u→V2.cell? p = some u:=fun hn p u hu=>((X.b hn).cell (yK W6 _ hu)).trans hu
   match i,Z with
   | 0,Z =>
    obtain rfl:=ya Z
    have hn:x[7]? = some false:=zy xo 12 0 7 (by kernel_rfl) hx (by simp) xy
    clear Q X xo
    rw [if_pos (by rfl)];unfold Oper.wp;go_simp
    exact ⟨upd f 0 (I mb 0),by simp [upd],zX (U xz) 0 _ hn (by decide) rfl⟩
   | 1,Z =>
    obtain rfl:=ya Z
    have hn:x[7]? = some false:=zy xo 12 1 7 (by kernel_rfl) hx (by simp) xy
    have y0:=xn hn (yq w 0) _ (U HN6 0 _ rfl)
    have y1:=xn hn (yq w 1) _ (U HN6 1 _ rfl)
    have y2:=xn hn (yq w 2) _ (U HN6 2 _ rfl)
    have y3:=xn hn (yq w 3) _ (U HN6 3 _ rfl)
    have y4:=xn hn (yq w 4) _ (U HN6 4 _ rfl)
    have y5:=xn hn (yq w 5) _ (U HN6 5 _ rfl)
    clear Q X xo
    rw [if_pos (by rfl)];unfold Oper.wp;go_simp
    exact ⟨upd f 1 (.agg #[H s,H ty,H li,H O,yj pr,yk L]),by simp [upd],zX (U xz) 1 _ hn (by decide) rfl⟩
   | 2,Z =>
    obtain rfl:=ya Z
    have hn:x[7]? = some false:=zy xo 12 2 7 (by kernel_rfl) hx (by simp) xy
    have g1:f 1 = .agg #[H s,H ty,H li,H O,yj pr,yk L]:=X.c hn 1 (ye Q 1 rfl)
    clear Q X xo
    rw [if_pos (by rfl)];unfold Oper.wp;go_simp
    refine (U HTO V2).mono ?_
    rintro e w4 ⟨rfl,xC⟩
    exact ⟨upd f 2 (.agg (yw 1 s ty li O 0 pr L).toArray),by simp [upd,g1],zX (ry_grow ca2_mono (U xz) hn xC) 2 _ hn (by decide) rfl⟩
   | 3,Z =>
    obtain rfl:=ya Z
    have hn:x[7]? = some false:=zy xo 12 3 7 (by kernel_rfl) hx (by simp) xy
    clear Q X xo
    rw [if_pos (by rfl)];unfold Oper.wp;go_simp
    exact ⟨upd f 3 (I b 2),by simp [upd],zX (U xz) 3 _ hn (by decide) rfl⟩
   | 4,Z =>
    obtain rfl:=ya Z
    have hn:x[7]? = some false:=zy xo 12 4 7 (by kernel_rfl) hx (by simp) xy
    have g3:f 3 = I b 2:=X.c hn 3 (ye Q 3 rfl)
    clear Q X xo
    rw [if_pos (by rfl)];unfold Oper.wp;go_simp
    exact ⟨upd f 4 (I b 2),by simp [upd,g3],zX (U xz) 4 _ hn (by decide) rfl⟩
   | 5,Z =>
    obtain rfl:=ya Z
    have hn:x[7]? = some false:=zy xo 12 5 7 (by kernel_rfl) hx (by simp) xy
    have g4:f 4 = I b 2:=X.c hn 4 (ye Q 4 rfl)
    have z2:=xn hn (J b 2) _ (U HMC 2 _ rfl)
    clear Q X xo
    rw [if_pos (by rfl)];unfold Oper.wp;go_simp
    exact ⟨upd f 5 (H next),by simp [upd,g4],zX (U xz) 5 _ hn (by decide) rfl⟩
   | 6,Z =>
    obtain rfl:=ya Z
    have hn:x[7]? = some false:=zy xo 12 6 7 (by kernel_rfl) hx (by simp) xy
    have g2:f 2 = .agg (yw 1 s ty li O 0 pr L).toArray:=X.c hn 2 (ye Q 2 rfl)
    have g5:f 5 = H next:=X.c hn 5 (ye Q 5 rfl)
    clear Q X xo
    rw [if_pos (by rfl)];unfold Oper.wp;go_simp
    exact ⟨upd f 6 (.agg (yu 1 1 s ty li O 0 pr L next 0 0 0 0).toArray),by simp [upd,g2,g5],zX (U xz) 6 _ hn (by decide) rfl⟩
   | 7,Z =>
    obtain rfl:=ya Z
    have hn:x[7]? = some false:=xy
    have g0:f 0 = I mb 0:=X.c hn 0 (ye Q 0 rfl)
    have g6:f 6 = .agg (yu 1 1 s ty li O 0 pr L next 0 0 0 0).toArray:=X.c hn 6 (ye Q 6 rfl)
    have vH:=Y (zQ (U qg) (X.b hn))
    have xT:=X.b hn
    have HKV:Hid (KeptBut mb W6.heap.size W6 V2):=zC xT qt
    have jb:=xT.size
    clear Q X xo xT
    rw [if_pos (by rfl)];unfold Oper.wp;go_simp
    refine (cI ⟨1,⟨1,s,ty,li,O,0,pr,L⟩,next,0,0,0,0⟩ V2 (U vH) (by simp)).mono ?_
    rintro e w5 ⟨rfl,⟨vo5,qS⟩,-,ht5⟩
    exact ⟨upd f 7 (.tuple #[]),by simp [upd,g0,g6],ry_write (U xz) hn _ ⟨⟨vo5,qS⟩,zk (U HKV) (cT ht5 jb (fun g hg=>by simp [Value.ownBlock] at hg))⟩⟩
   | n + 8,Z=>simp at Z
  ·rintro x xm V2 ⟨f,rfl,X⟩ hx xP
   have xp:=zR xP hx (by kernel_rfl)
   obtain ⟨hE7,hK7⟩:=X.m (xp 7 (by simp))
   refine U xu _ _ ?_
   clear xu
   dsimp only
   generalize f 0 = u0,f 1 = u1,f 2 = u2,f 3 = u3,f 4 = u4,f 5 = u5,f 6 = u6,f 7 = u7
   have uK:Hid ((∃ qz,EnS mb B W6.heap.size V2 gv gs gl next (.slice a l.length A) l t qz (⟨1,⟨1,s,ty,li,O,0,pr,L⟩,next,0,0,0,0⟩ :: Ft.take 0))∧KeptBut mb W6.heap.size W6 V2):=⟨by simpa using hE7,hK7⟩
   clear X xp xP hx hE7 hK7 qg
   obtain ⟨av,cv,hvt⟩:=zT (U oe).erow
   subst hvt
   have hmS:mb < hR.heap.size:=yJ qG (U xU).size
   have hBS:B ≤ hR.heap.size:=by omega
   have HMK:Hid (∀ wr:World,KeptBut mb W6.heap.size W6 wr→MatS b hR.heap.size wr (next + 1) vqm FL ⟨next,s,tk pr,Fl,li,L⟩ (.slice av Ft.length cv) Ft):=fun wr hk=>matS_kept (U oe) hk hmS hSb
   have HNK:Hid (∀ wr:World,KeptBut mb W6.heap.size W6 wr→wr.rangeAt w.heap.size 0 [H s,H ty,H li,H O,yj pr,yk L]):=fun wr hk=>kb_range hk (U HN6) (by omega)
   have hF20:Ft.length ≤ 21:=by simpa using U HMF
   have hq6:Hid (∀ g,(Value.slice a l.length A).ownBlock = some g→g < hR.heap.size):=fun g hg=>yJ ((U HOR).lt g hg).2 (U xU).size
   have HVT:Hid (∀ g,(Value.slice av Ft.length cv).ownBlock = some g→g < W6.heap.size):=fun g hg=>((U oe).erow.lt g hg).2
   clear oe HN6 HMC HMF HOR ux
   have z8:V2.cell? (J b 8) = some (.slice av Ft.length cv):=(U HMK V2 (U uK).2).cells 8 _ rfl
   refine eH fun hj xu=>?_
   go_wp2_with fail
   clear z8
   go_loopw [27] (fun iv wr=>∃ (k:Nat),k ≤ Ft.length∧iv = H k∧Hid ((∃ qz,EnS mb B W6.heap.size wr gv gs gl next (.slice a l.length A) l t qz (⟨1,⟨1,s,ty,li,O,0,pr,L⟩,next,0,0,0,0⟩ :: Ft.take k))∧KeptBut mb W6.heap.size W6 wr)) (fun iv _=>Ft.length - (intOf iv).toNat)
   case atStart=>exact ⟨0,Nat.zero_le _,rfl,U uK⟩
   case round =>
    obtain ⟨k,hk,rfl,ub⟩:=hrel
    by_cases xJ:k < Ft.length
    ·obtain ⟨e,jk⟩:∃ e,Ft[k]? = some e:=⟨_,yH xJ⟩
     obtain ⟨a',c',e1,_,xo⟩:=da (bQ Ev.len (by omega) (U HMK wr (U ub).2).erow)
     obtain ⟨b',off,e2,jK,xo⟩:=xo (by rintro rfl; simp at jk)
     simp only [Value.slice.injEq] at e1
     obtain ⟨e1,-,-⟩:=e1
     rw [e2] at e1
     subst e1
     obtain ⟨g0,g1,g2,g3,g4,g5,g6,g7,g8,g9,qR,vF,xZ,kR⟩:=bD (xo k e jk)
     have un:(k:Int) < Ft.length:=by omega
     have hk0:(0:Int) ≤ k:=by omega
     obtain ⟨⟨vo6,kj⟩,kH⟩:=U ub
     have vr:=eD wr (eF (yu e.kind e.cmd.k e.cmd.s e.cmd.t e.cmd.l e.cmd.q e.cmd.i e.cmd.p e.cmd.g e.id e.other e.qty e.price e.reason).toArray 46)
     have hszW:W6.heap.size ≤ wr.heap.size:=kH.size
     have HEY:=Y (zQ kj vr)
     have HKY:=Y (zk kH (zC vr hszW))
     have qb:Hid (Ft.take (k + 1) = Ft.take k ++ [e]):=by show _ = _; rw [List.take_add_one,jk]; rfl
     have HLN:Hid ((⟨1,⟨1,s,ty,li,O,0,pr,L⟩,next,0,0,0,0⟩ :: Ft.take k:List Ev).length ≤ 1000):=by show _ ≤ _; simp [List.length_take]; omega
     have hszY:W6.heap.size ≤ (wr.alloc (eF (yu e.kind e.cmd.k e.cmd.s e.cmd.t e.cmd.l e.cmd.q e.cmd.i e.cmd.p e.cmd.g e.id e.other e.qty e.price e.reason).toArray 46)).heap.size:=yN hszW vr.size
     clear ub kj kH xo vr jk e2 jK
     have hsf:=sfl
     go_wp2_with fail
     generalize (wr.alloc (eF (yu e.kind e.cmd.k e.cmd.s e.cmd.t e.cmd.l e.cmd.q e.cmd.i e.cmd.p e.cmd.g e.id e.other e.qty e.price e.reason).toArray 46)) = yb at HEY HKY hszY ⊢
     refine (cI e yb (U HEY) (U HLN)).mono ?_
     rintro e w6 ⟨rfl,⟨vo7,hE7⟩,-,ht7⟩
     have HN:Hid ((∃ qz,EnS mb B W6.heap.size w6 gv gs gl next (.slice a l.length A) l t qz (⟨1,⟨1,s,ty,li,O,0,pr,L⟩,next,0,0,0,0⟩ :: Ft.take (k + 1)))∧KeptBut mb W6.heap.size W6 w6):=⟨⟨vo7,by rw [U qb]; exact hE7⟩,zk (U HKY) (cT ht7 hszY (fun g hg=>((U HEY).erow.lt g hg).1))⟩
     clear hE7 ht7
     go_wp2_with fail
     go_roundw
     case rel=>exact ⟨k + 1,by omega,by go_num,U HN⟩
     case measure=>simp [intOf]; omega
    ·obtain rfl:k = Ft.length:=by omega
     rw [yZ qt] at ub
     have un:¬ (Ft.length:Int) < Ft.length:=by omega
     have HE8:=Y (U ub).1
     have HK8:=Y (U ub).2
     have aA:=Y (U HMK wr (U ub).2)
     have HN8:=Y (U HNK wr (U ub).2)
     have HKw8:Hid (KeptBut mb B w wr):=zk (U az) (kept_less (U ub).2 (by omega))
     clear ub uK HMK HNK
     go_wp2_with fail
     refine U xu _ _ ?_
     clear xu
     have y5:wr.cell? (J b 5) = some (H Fl):=(U aA).cells 5 _ rfl
     refine eH fun hj xu=>?_
     by_cases hFl:0 < Fl
     ·have y0:wr.cell? (yq w 0) = some (H s):=U HN8 0 _ rfl
      have y1:wr.cell? (yq w 1) = some (H ty):=U HN8 1 _ rfl
      have y2:wr.cell? (yq w 2) = some (H li):=U HN8 2 _ rfl
      have y3:wr.cell? (yq w 3) = some (H O):=U HN8 3 _ rfl
      have y4:wr.cell? (yq w 4) = some (yj pr):=U HN8 4 _ rfl
      have y6:wr.cell? (yq w 5) = some (yk L):=U HN8 5 _ rfl
      go_wp2_with fail
      refine (U HRS wr).mono ?_
      rintro e w9 ⟨rfl,hb9⟩
      obtain ⟨vo8,hE8⟩:=U HE8
      have HE9:=Y (zQ hE8 hb9)
      have HM9:=Y (dv (U aA) hb9)
      have HKw9:Hid (KeptBut mb B w w9):=zk (U HKw8) (zC hb9 (yN pM (yN (U HKw8).size qt)))
      have hl22:(⟨1,⟨1,s,ty,li,O,0,pr,L⟩,next,0,0,0,0⟩ :: Ft:List Ev).length ≤ 1000:=by simp; omega
      clear hb9 hE8 y0 y1 y2 y3 y4 y5 y6 HE8 aA HN8 HK8
      cases qM:aO ty
      ·have HAL:Hid (accL ⟨kk,s,ty,li,O,ii,pr,L⟩ next (FL,Fl,Ft) = FL∧accE ⟨kk,s,ty,li,O,ii,pr,L⟩ next (FL,Fl,Ft) = ⟨1,⟨1,s,ty,li,O,0,pr,L⟩,next,0,0,0,0⟩ :: Ft ++ [⟨5,zCm,next,0,Fl,0,0⟩]):=⟨by simp [accL,qM],by simp [accE,hFl,qM]⟩
       have x2:w9.cell? (J b 2) = some (H next):=(U HM9).cells 2 _ rfl
       go_wp2_with fail
       refine (cI ⟨5,zCm,next,0,Fl,0,0⟩ w9 (U HE9) hl22).mono ?_
       rintro e pz ⟨rfl,hE10,hk10,ht10⟩
       have HEA:=Y hE10
       have HMA:Hid (MatS b hR.heap.size pz (next + 1) vqm FL ⟨next,s,tk pr,Fl,li,L⟩ (.slice av Ft.length cv) Ft):=matS_told (U HM9) ht10 (U HE9).erow hmS hSb (fun g hg e=>by have:=U HVT g hg; have:=((U HE9).erow.lt g e).1; omega)
       have HKA:=Y (zk (U HKw9) hk10)
       clear hE10 hk10 ht10 x2
       go_wp2_with fail
       refine U xu _ _ ?_
       clear xu
       have zf0:pz.cell? (J b 0) = some (H (next + 1)):=(U HMA).cells 0 _ rfl
       obtain ⟨aF,cF,hF⟩:=zT (U HMA).orow
       have zf1:pz.cell? (J b 1) = some (.slice aF (FL).length cF):=by rw [← hF]; exact (U HMA).cells 1 _ rfl
       obtain ⟨voF,kE⟩:=U HEA
       have zm1:pz.cell? (J mb 1) = some (H next):=kE.cells 1 _ rfl
       have zm2:pz.cell? (J mb 2) = some (.slice a l.length A):=kE.cells 2 _ rfl
       have fm1:pz.frozen? (J mb 1) = false:=(kE.there 1 (by omega)).2
       have fm2:pz.frozen? (J mb 2) = false:=(kE.there 2 (by omega)).2
       have ax:=Y (ens_book kE (next + 1) (zH (hF ▸ (U HMA).orow) hBS))
       have ay:Hid (KeptBut mb B w _):=zk (U HKA) (zk (cV pz 1 (H (next + 1))) (cV _ 2 (.slice aF (FL).length cF)))
       generalize (FL).length = nF at ax ay zf1
       clear kE
       go_wp2_with fail
       go_end0
       exact ⟨rfl,⟨_,_,voF,by rw [(U HAL).1,(U HAL).2]; exact U ax⟩,U ay⟩
      ·have HAL:Hid (accL ⟨kk,s,ty,li,O,ii,pr,L⟩ next (FL,Fl,Ft) = FL ++ [(⟨next,s,tk pr,Fl,li,L⟩:Od)]∧accE ⟨kk,s,ty,li,O,ii,pr,L⟩ next (FL,Fl,Ft) = ⟨1,⟨1,s,ty,li,O,0,pr,L⟩,next,0,0,0,0⟩ :: Ft ++ [⟨4,zCm,next,0,Fl,0,0⟩]):=⟨by simp [accL,qM,hFl],by simp [accE,hFl,qM]⟩
       go_wp2_with fail
       refine (rest_took b hR.heap.size (next + 1) vqm FL ⟨next,s,tk pr,Fl,li,L⟩ _ Ft w9 (U HM9) (by have:=(U pg).1.len; omega)).mono ?_
       rintro e pz ⟨vqr,rfl,hMr,ob⟩
       have HE10:=Y (ens_far (U HE9) (U HM9) ob (U hq6) hmS hSb)
       have HMr:=Y hMr
       have HKw10:Hid (KeptBut mb B w pz):=zk (U HKw9) ⟨ob.os,ob.tape,ob.output,ob.size,fun k hk _=>ob.block k (by have:=(U HM9).le; omega) (by omega) (fun e=>by have:=((U HM9).orow.lt k e.symm).1; omega)⟩
       have x2:pz.cell? (J b 2) = some (H next):=hMr.cells 2 _ rfl
       clear hMr ob HE9 HM9
       go_wp2_with fail
       refine (cI ⟨4,zCm,next,0,Fl,0,0⟩ pz (U HE10) hl22).mono ?_
       rintro e w11 ⟨rfl,hE11,hk11,ht11⟩
       have HEA:=Y hE11
       have HMA:Hid (MatS b hR.heap.size w11 (next + 1) vqr (FL ++ [(⟨next,s,tk pr,Fl,li,L⟩:Od)]) ⟨next,s,tk pr,Fl,li,L⟩ (.slice av Ft.length cv) Ft):=matS_told (U HMr) ht11 (U HE10).erow hmS hSb (fun g hg e=>by have:=U HVT g hg; have:=((U HE10).erow.lt g e).1; omega)
       have HKA:=Y (zk (U HKw10) hk11)
       clear hE11 hk11 ht11 x2
       go_wp2_with fail
       refine U xu _ _ ?_
       clear xu
       have zf0:w11.cell? (J b 0) = some (H (next + 1)):=(U HMA).cells 0 _ rfl
       obtain ⟨aF,cF,hF⟩:=zT (U HMA).orow
       have zf1:w11.cell? (J b 1) = some (.slice aF (FL ++ [(⟨next,s,tk pr,Fl,li,L⟩:Od)]).length cF):=by rw [← hF]; exact (U HMA).cells 1 _ rfl
       obtain ⟨voF,kE⟩:=U HEA
       have zm1:w11.cell? (J mb 1) = some (H next):=kE.cells 1 _ rfl
       have zm2:w11.cell? (J mb 2) = some (.slice a l.length A):=kE.cells 2 _ rfl
       have fm1:w11.frozen? (J mb 1) = false:=(kE.there 1 (by omega)).2
       have fm2:w11.frozen? (J mb 2) = false:=(kE.there 2 (by omega)).2
       have ax:=Y (ens_book kE (next + 1) (zH (hF ▸ (U HMA).orow) hBS))
       have ay:Hid (KeptBut mb B w _):=zk (U HKA) (zk (cV w11 1 (H (next + 1))) (cV _ 2 (.slice aF (FL ++ [(⟨next,s,tk pr,Fl,li,L⟩:Od)]).length cF)))
       generalize (FL ++ [(⟨next,s,tk pr,Fl,li,L⟩:Od)]).length = nF at ax ay zf1
       clear kE
       go_wp2_with fail
       go_end0
       exact ⟨rfl,⟨_,_,voF,by rw [(U HAL).1,(U HAL).2]; exact U ax⟩,U ay⟩
     ·have HAL:Hid (accL ⟨kk,s,ty,li,O,ii,pr,L⟩ next (FL,Fl,Ft) = FL∧accE ⟨kk,s,ty,li,O,ii,pr,L⟩ next (FL,Fl,Ft) = ⟨1,⟨1,s,ty,li,O,0,pr,L⟩,next,0,0,0,0⟩ :: Ft):=⟨by simp [accL,hFl],by simp [accE,hFl]⟩
      go_wp2_with fail
      refine U xu _ _ ?_
      clear xu
      have zf0:wr.cell? (J b 0) = some (H (next + 1)):=(U aA).cells 0 _ rfl
      obtain ⟨aF,cF,hF⟩:=zT (U aA).orow
      have zf1:wr.cell? (J b 1) = some (.slice aF (FL).length cF):=by rw [← hF]; exact (U aA).cells 1 _ rfl
      obtain ⟨voF,kE⟩:=U HE8
      have zm1:wr.cell? (J mb 1) = some (H next):=kE.cells 1 _ rfl
      have zm2:wr.cell? (J mb 2) = some (.slice a l.length A):=kE.cells 2 _ rfl
      have fm1:wr.frozen? (J mb 1) = false:=(kE.there 1 (by omega)).2
      have fm2:wr.frozen? (J mb 2) = false:=(kE.there 2 (by omega)).2
      have ax:=Y (ens_book kE (next + 1) (zH (hF ▸ (U aA).orow) hBS))
      have ay:Hid (KeptBut mb B w _):=zk (U HKw8) (zk (cV wr 1 (H (next + 1))) (cV _ 2 (.slice aF (FL).length cF)))
      generalize (FL).length = nF at ax ay zf1
      clear kE
      go_wp2_with fail
      go_end0
      exact ⟨rfl,⟨_,_,voF,by rw [(U HAL).1,(U HAL).2]; exact U ax⟩,U ay⟩
end Go.Proofs.YtbakanofkghmiaaGreat
