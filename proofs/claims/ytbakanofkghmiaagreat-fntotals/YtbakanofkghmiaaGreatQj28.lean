/-
  A new order accepted by the engine: proved by walking the method.
-/
import Derived.Test.YtbakanofkghmiaaGreatQj26
import Derived.Test.YtbakanofkghmiaaGreatQj27
set_option linter.unusedVariables false
set_option maxHeartbeats 6400000
set_option maxRecDepth 100000
namespace Go.Proofs.YtbakanofkghmiaaGreat
open Go.RowKit
def accL (c:Cm) (next:Int) (ty:List Od × Int × List Ev):List Od:=if 0 < ty.2.1∧aO c.t = true then ty.1 ++ [⟨next,c.s,tk c.p,ty.2.1,c.l,c.g⟩] else ty.1
def accE (c:Cm) (next:Int) (ty:List Od × Int × List Ev):List Ev:=⟨1,⟨1,c.s,c.t,c.l,c.q,0,c.p,c.g⟩,next,0,0,0,0⟩ :: ty.2.2 ++ (if 0 < ty.2.1 then [⟨if aO c.t = true then 4 else 5,zCm,next,0,ty.2.1,0,0⟩] else [])
theorem zI {B C e sz n:Nat} {v:Value} {xs:List Value} {W:World} (h:W.ownsRow B e sz v n xs) (hC:C ≤ B):W.ownsRow C e sz v n xs:=by
 refine ⟨h.1,?_⟩
 rcases h.2 with hn | ⟨g,A,xu,rfl,hg,rest⟩
 ·exact .inl hn
 ·exact .inr ⟨g,A,xu,rfl,yO hC hg,rest⟩
theorem ens_raise {mb B Bo C:Nat} {W:World} {gv:Value} {gs:List Value} {gl:List (List Ev)} {next:Int} {vq:Value} {l:List Od} {t:Tot} (h:EnS mb B Bo W gv gs gl next vq l t (.slice none 0 0) []) (Q:Bo ≤ C) (N:C ≤ W.heap.size):EnS mb B C W gv gs gl next vq l t (.slice none 0 0) [] :=
 ⟨h.cells,h.there,h.grow,h.glen,h.geach,⟨fun g hg b X=>yK (h.glt.1 g hg b X) Q,h.glt.2⟩,h.orow,World.ownsRow_nil _ _ _ _,h.box,yO h.bo Q,N⟩
theorem ens_next {mb B Bo:Nat} {W:World} {gv:Value} {gs:List Value} {gl:List (List Ev)} {next:Int} {vq:Value} {l:List Od} {t:Tot} {vo:Value} {ts:List Ev} (h:EnS mb B Bo W gv gs gl next vq l t vo ts) (m:Int):EnS mb B Bo (W.setCell (J mb 1) (H m)) gv gs gl m vq l t vo ts:=by
 refine ⟨?_,zE h.there,zv h.grow (zl h.grow h.box (by decide)) _ _,h.glen,fun i g es hg uS=>zv (h.geach i g es hg uS) (zl (h.geach i g es hg uS) h.box (by decide)) _ _,h.glt,zv h.orow (zl h.orow h.box (by decide)) _ _,zv h.erow (zl h.erow h.box (by decide)) _ _,?_,h.bo,by simp only [World.setCell,Array.size_modify]; exact h.le⟩
 ·have:=cA (j:=1) (u:=H m) h.cells (by simp)
  exact this
 ·obtain ⟨xu,hc⟩:=h.box
  exact zO W mb 1 _ hc
theorem dw {c:Cm} {id:Int}:∀ (n:Nat) (l:List Od) (left:Int) (ts:List Ev),(matL c id n l left ts).2.2.length ≤ ts.length + n
 | 0,_,_,_=>Nat.le_refl _
 | n + 1,l,left,ts=>by
  rw [matL]
  split
  ·split
   ·simp
   ·split
    ·refine yO (dw n _ _ _) ?_
     rw [yQ]; simp; omega
    ·simp
  ·simp
theorem matS_kept {mb b S:Nat} {W W':World} {next:Int} {vq vt:Value} {l:List Od} {t:Od} {ts:List Ev} (h:MatS b S W next vq l t vt ts) (hk:KeptBut mb W.heap.size W W') (hm:mb < S) (X:S ≤ b):MatS b S W' next vq l t vt ts:=by
 have aB:=hk.block b h.lt (by omega)
 refine ⟨fun j u R=>(yR (a:=(J b (0 + j))) aB).trans (h.cells j u R),fun j R=>⟨?_,?_⟩,kb_row h.orow hk hm,kb_row h.erow hk hm,?_,yO h.le hk.size⟩
 ·rw [yR (a:=(J b (0 + j))) aB]; exact (h.there j R).1
 ·rw [World.frozen?_of_block (a:=(J b (0 + j))) aB]; exact (h.there j R).2
 ·obtain ⟨xu,hc⟩:=h.box
  exact ⟨xu,aB.trans hc⟩
theorem kept_less {mb B C:Nat} {w w':World} (h:KeptBut mb C w w') (hB:B ≤ C):KeptBut mb B w w':=⟨h.os,h.tape,h.output,h.size,fun k hk hm=>h.block k (by omega) hm⟩
theorem ens_far {mb B Bo b S:Nat} {W W':World} {gv:Value} {gs:List Value} {gl:List (List Ev)} {next n2:Int} {vq:Value} {l:List Od} {t:Tot} {vo:Value} {ts:List Ev} {vm vt:Value} {lm:List Od} {tm:Od} {tt:List Ev} (h:EnS mb B Bo W gv gs gl next vq l t vo ts) (hM:MatS b S W n2 vm lm tm vt tt) (ht:TookAt b 0 vm.ownBlock W W') (hq:∀ g,vq.ownBlock = some g→g < S) (hm:mb < S) (X:S ≤ b):EnS mb B Bo W' gv gs gl next vq l t vo ts:=by
 have aB:W'.heap[mb]? = W.heap[mb]?:=ht.block mb h.lt (by omega) (zl hM.orow h.box (by decide))
 refine ⟨fun j u R=>(yR (a:=(J mb (0 + j))) aB).trans (h.cells j u R),fun j R=>⟨?_,?_⟩,bi h.grow ht (zl h.grow hM.box (by decide)) (zD h.grow hM.orow (by decide)),h.glen,fun i g es hg uS=>bi (h.geach i g es hg uS) ht (zl (h.geach i g es hg uS) hM.box (by decide)) (zD (h.geach i g es hg uS) hM.orow (by decide)),h.glt,bi h.orow ht (zl h.orow hM.box (by decide)) ?_,bi h.erow ht (zl h.erow hM.box (by decide)) (zD h.erow hM.orow (by decide)),?_,h.bo,yO h.le ht.size⟩
 ·rw [yR (a:=(J mb (0 + j))) aB]; exact (h.there j R).1
 ·rw [World.frozen?_of_block (a:=(J mb (0 + j))) aB]; exact (h.there j R).2
 ·cases e:vq.ownBlock with
  | none=>exact .inl rfl
  | some g=>exact .inr fun e'=>by have:=hq g e; have:=(hM.orow.lt g e'.symm).1; omega
 ·obtain ⟨xu,hc⟩:=h.box
  exact ⟨xu,aB.trans hc⟩
theorem zU {B e sz n:Nat} {v:Value} {xs:List Value} {W:World} (h:W.ownsRow B e sz v n xs):∃ a c,v = .slice a n c:=by
 rcases h.2 with ⟨e,e2⟩ | ⟨g,A,xu,e,_⟩
 ·exact ⟨none,0,by rw [e,e2]⟩
 ·exact ⟨_,_,e⟩
theorem matS_told {mb b S Bo:Nat} {W W':World} {next:Int} {vq vt vo:Value} {l:List Od} {t:Od} {ts es:List Ev} (h:MatS b S W next vq l t vt ts) (ht:TookAt mb 10 vo.ownBlock W W') (Z:ERow W Bo vo es) (hm:mb < S) (X:S ≤ b) (hvt:∀ g,vt.ownBlock = some g→vo.ownBlock ≠ some g):MatS b S W' next vq l t vt ts:=by
 have aB:W'.heap[b]? = W.heap[b]?:=ht.block b h.lt (by omega) (zl Z h.box (by decide))
 refine ⟨fun j u R=>(yR (a:=(J b (0 + j))) aB).trans (h.cells j u R),fun j R=>⟨?_,?_⟩,bi h.orow ht (fun e=>by have:=(h.orow.lt mb e.symm).1; omega) (zD h.orow Z (by decide)),bi h.erow ht (fun e=>by have:=(h.erow.lt mb e.symm).1; omega) ?_,?_,yO h.le ht.size⟩
 ·rw [yR (a:=(J b (0 + j))) aB]; exact (h.there j R).1
 ·rw [World.frozen?_of_block (a:=(J b (0 + j))) aB]; exact (h.there j R).2
 ·cases e:vt.ownBlock with
  | none=>exact .inl rfl
  | some g=>exact .inr fun e'=>hvt g e e'.symm
 ·obtain ⟨xu,hc⟩:=h.box
  exact ⟨xu,aB.trans hc⟩
theorem ens_book {mb B Bo:Nat} {W:World} {gv:Value} {gs:List Value} {gl:List (List Ev)} {next:Int} {vq vu:Value} {l l':List Od} {t:Tot} {vo:Value} {ts:List Ev} (h:EnS mb B Bo W gv gs gl next vq l t vo ts) (m:Int) (Z:ORow W B vu l'):EnS mb B Bo ((W.setCell (J mb 1) (H m)).setCell (J mb 2) vu) gv gs gl m vu l' t vo ts:=by
 have Q:=ens_next h m
 have hn:some mb ≠ vu.ownBlock:=zl Z h.box (by decide)
 have vZ:=zv Z hn 1 (H m)
 have ho2:=zv vZ hn 2 vu
 exact ens_took Q (yN _ _ _ (Q.cells 2 _ rfl)) ho2 (db (o:=1) _ _)
def CAx1 (mb S n A:Nat) (a:Option Addr) (next s F li L tk0 Fl:Int) (pr:Nat) (O:ByteArray) (FL:List Od) (Ft:List Ev) (W:World):Nat→Value→Prop
 | 0,v=>v = I mb 0
 | 1,v=>v = I mb 0
 | 2,v=>v = I mb 0
 | 3,v=>v = I mb 1
 | 4,v=>v = .agg #[H next,.slice a n A]
 | 5,v=>v = .agg #[H s,H F,H li,H L,yj pr,yk O]
 | 6,v=>∃ aq cq av cv,v = .agg #[H (next + 1),.slice aq FL.length cq,H next,H s,H tk0,H Fl,H li,yk O,.slice av Ft.length cv]∧ORow W S (.slice aq FL.length cq) FL∧ERow W S (.slice av Ft.length cv) Ft
 | 7,v=>∃ b,v = I b 0∧S ≤ b∧b < W.heap.size∧W.there b 0 9∧∃ xu,W.heap[b]? = some (.cells xu 157 (0,0))
 | _,_=>True
theorem ca1_mono {mb S n A:Nat} {a:Option Addr} {next s F li L tk0 Fl:Int} {pr:Nat} {O:ByteArray} {FL:List Od} {Ft:List Ev}:∀ W W' j v,yn W W'→CAx1 mb S n A a next s F li L tk0 Fl pr O FL Ft W j v→CAx1 mb S n A a next s F li L tk0 Fl pr O FL Ft W' j v:=by
 intro W W' j v X h
 match j with
 | 0 | 1 | 2 | 3 | 4 | 5=>exact h
 | 6=>obtain ⟨aq,cq,av,cv,Q,N,h3⟩:=h; exact ⟨aq,cq,av,cv,Q,zm N X,zJ h3 X⟩
 | 7=>obtain ⟨b,Q,N,h3,h4,xu,h5⟩:=h; exact ⟨b,Q,N,yK h3 X.size,zg h4 X h3,xu,(X.block b h3).trans h5⟩
 | j + 8=>trivial
def CQ1 (hb:World) (next s tk0 Fl li:Int) (O:ByteArray) (FL:List Od) (Ft:List Ev) (f:Nat→Value) (W:World):Prop:=∃ b vq vt,f 7 = I b 0∧hb.heap.size ≤ b∧MatS b hb.heap.size W (next + 1) vq FL ⟨next,s,tk0,Fl,li,O⟩ vt Ft∧yn hb W
def CA2 (mb b:Nat) (next s F li L:Int) (pr:Nat) (O:ByteArray) (W:World):Nat→Value→Prop
 | 0,v=>v = I mb 0
 | 1,v=>v = .agg #[H s,H F,H li,H L,yj pr,yk O]
 | 2,v=>v = .agg (yx 1 s F li L 0 pr O).toArray
 | 3,v=>v = I b 2
 | 4,v=>v = I b 2
 | 5,v=>v = H next
 | 6,v=>v = .agg (yv 1 1 s F li L 0 pr O next 0 0 0 0).toArray
 | _,_=>True
theorem ca2_mono {mb b:Nat} {next s F li L:Int} {pr:Nat} {O:ByteArray}:∀ W W' j v,yn W W'→CA2 mb b next s F li L pr O W j v→CA2 mb b next s F li L pr O W' j v:=by
 intro W W' j v X h
 match j with
 | 0 | 1 | 2 | 3 | 4 | 5 | 6=>exact h
 | j + 7=>trivial
theorem acceptE_any {mb B Bo:Nat} {gv:Value} {gs:List Value} {gl:List (List Ev)} {next:Int} {vq:Value} {l:List Od} {t:Tot} (c:Cm) (w:World) (h:EnS mb B Bo w gv gs gl next vq l t (.slice none 0 0) []) (hg:GoodL l) (h0:0 ≤ next) (Q:next ≤ 1000000) (jp:0 ≤ c.q) (jq:c.q ≤ 1000000) :
  Calls Tryz.prog 67 #[I mb 0,noV c] w fun r w'=>r = ym (.tuple #[])∧(∃ Bo' vu qu,EnS mb B Bo' w' gv gs gl (next + 1) vu (accL c next (matL c next 21 l c.q [])) t qu (accE c next (matL c next 21 l c.q [])))∧KeptBut mb B w w':=by
 have qE:=h.lt
 have pF:B ≤ w.heap.size:=yO h.bo h.le
 have vN:=hg.len
 obtain ⟨a,A,rfl,vE,hc⟩:=zN h.orow (by omega)
 have HRD0:=Y (zN h.orow (by omega))
 have HOR:=Y h.orow
 have oU:=Y (cN (c:=c) (id:=next) 21 l c.q [] hg jp jq)
 have HMF:=Y (dw (c:=c) (id:=next) 21 l c.q [])
 obtain ⟨kk,s,F,li,L,ii,pr,O⟩:=c
 have vP:Hid (SlOk (.slice a l.length A)):=oRow_sl h.orow
 have HCA:Hid (∀ W:World,RdR Od.vs 6 W (.slice a l.length A) l→Calls Tryz.prog 112 #[.agg #[H next,.slice a l.length A],.agg #[H s,H F,H li,H L,yj pr,yk O]] W _):=fun W hW=>match_any next _ l ⟨kk,s,F,li,L,ii,pr,O⟩ W hW (U vP) hg h0 Q jp jq
 have jf:Hid (∀ W:World,Calls Tryz.prog 113 #[.agg #[H s,H F,H li,H L,yj pr,yk O]] W _):=fun W=>toldNew_any ⟨kk,s,F,li,L,ii,pr,O⟩ W
 have HRS:Hid (∀ W:World,Calls Tryz.prog 114 #[.agg #[H s,H F,H li,H L,yj pr,yk O]] W _):=fun W=>dP ⟨kk,s,F,li,L,ii,pr,O⟩ W
 generalize hmat:matL ⟨kk,s,F,li,L,ii,pr,O⟩ next 21 l L [] = ty at oU HCA HMF ⊢
 obtain ⟨FL,Fl,Ft⟩:=ty
 unfold noV
 simp only at HCA oU jf HRS HMF ⊢
 have xV:=eE w (E #[H s,H F,H li,H L,yj pr,yk O] 112)
 have HE:=Y (zP h xV)
 have xU:=Y xV
 have xC:w.heap.size < (w.alloc (E #[H s,H F,H li,H L,yj pr,yk O] 112)).heap.size:=by rw [zh]; omega
 have ja:Hid (World.rangeAt (w.alloc (E #[H s,H F,H li,H L,yj pr,yk O] 112)) w.heap.size 0 [H s,H F,H li,H L,yj pr,yk O]):=zi w [H s,H F,H li,H L,yj pr,yk O] _
 have ji:=Y (zn (U HRD0) xV tg)
 have uH:Hid (0 ≤ next∧next ≤ 1000000):=⟨h0,Q⟩
 clear h xV hc vE hg h0 Q jp jq hmat HRD0
 go_enter Tryz.func67,Tryz.ntmps67
 refine eI fun hR xv=>?_
 go_wp2_with fail
 refine U xv _ _ ?_
 clear xv
 generalize (w.alloc (E #[H s,H F,H li,H L,yj pr,yk O] 112)) = hb at HE xU xC ja ji ⊢
 have qd:Hid (hb.cell? (J mb 1) = some (H next)):=(U HE).cells 1 _ rfl
 have vC:Hid (hb.cell? (J mb 2) = some (.slice a l.length A)):=(U HE).cells 2 _ rfl
 refine eI fun hR xv=>?_
 refine zj (RYA (fun f=>{ tmps:=#[I mb 0,.agg #[H s,H F,H li,H L,yj pr,yk O],M,yp w 0,f 7,M,M,M,M,f 0,f 1,f 2,f 3,f 4,f 5,f 6,M,M,M,M,M,M,M,M,M,M,M,M,M,M,M,M,M,M,M,M,M,M,M,M,M,M,M,M,M,M,M,M,M,M,M,M,M,M,M,M,M],defers:=[] }) (CAx1 mb hb.heap.size l.length A a next s F li L (tk pr) Fl pr O FL Ft) 8 (CQ1 hb next s (tk pr) Fl li O FL Ft) hb) (by kernel_rfl) ?_ ?_ ?_
 ·exact ⟨fun _=>M,rfl,ry_start (by decide)⟩
 rotate_left
 ·rintro x xn V i op ⟨f,rfl,K⟩ xp hx Z xz D
  have xA:=Y K
  have xo:x[8]? = some false→∀ (p:Addr) u,hb.cell? p = some u→V.cell? p = some u:=fun hn p u hu=>((K.b hn).cell (yL hb _ hu)).trans hu
  match i,Z with
  | 0,Z =>
   obtain rfl:=ya Z
   have hn:x[8]? = some false:=zz xp 12 0 8 (by kernel_rfl) hx (by simp) xz
   clear D K xp
   rw [if_pos (by rfl)];unfold Oper.wp;go_simp
   exact ⟨upd f 0 (I mb 0),by simp [upd],zY (U xA) 0 _ hn (by decide) rfl⟩
  | 1,Z =>
   obtain rfl:=ya Z
   have hn:x[8]? = some false:=zz xp 12 1 8 (by kernel_rfl) hx (by simp) xz
   have g0:f 0 = I mb 0:=K.c hn 0 (ye D 0 rfl)
   clear D K xp
   rw [if_pos (by rfl)];unfold Oper.wp;go_simp
   exact ⟨upd f 1 (I mb 0),by simp [upd,g0],zY (U xA) 1 _ hn (by decide) rfl⟩
  | 2,Z =>
   obtain rfl:=ya Z
   have hn:x[8]? = some false:=zz xp 12 2 8 (by kernel_rfl) hx (by simp) xz
   have g1:f 1 = I mb 0:=K.c hn 1 (ye D 1 rfl)
   clear D K xp
   rw [if_pos (by rfl)];unfold Oper.wp;go_simp
   exact ⟨upd f 2 (I mb 0),by simp [upd,g1],zY (U xA) 2 _ hn (by decide) rfl⟩
  | 3,Z =>
   obtain rfl:=ya Z
   have hn:x[8]? = some false:=zz xp 12 3 8 (by kernel_rfl) hx (by simp) xz
   have g2:f 2 = I mb 0:=K.c hn 2 (ye D 2 rfl)
   clear D K xp
   rw [if_pos (by rfl)];unfold Oper.wp;go_simp
   exact ⟨upd f 3 (I mb 1),by simp [upd,g2],zY (U xA) 3 _ hn (by decide) rfl⟩
  | 4,Z =>
   obtain rfl:=ya Z
   have hn:x[8]? = some false:=zz xp 12 4 8 (by kernel_rfl) hx (by simp) xz
   have g3:f 3 = I mb 1:=K.c hn 3 (ye D 3 rfl)
   have z1:=xo hn (J mb 1) _ (U qd)
   have z2:=xo hn (J mb 2) _ (U vC)
   clear D K xp
   rw [if_pos (by rfl)];unfold Oper.wp;go_simp
   exact ⟨upd f 4 (.agg #[H next,.slice a l.length A]),by simp [upd,g3],zY (U xA) 4 _ hn (by decide) rfl⟩
  | 5,Z =>
   obtain rfl:=ya Z
   have hn:x[8]? = some false:=zz xp 12 5 8 (by kernel_rfl) hx (by simp) xz
   have y0:=xo hn (yq w 0) _ (U ja 0 _ rfl)
   have y1:=xo hn (yq w 1) _ (U ja 1 _ rfl)
   have y2:=xo hn (yq w 2) _ (U ja 2 _ rfl)
   have y3:=xo hn (yq w 3) _ (U ja 3 _ rfl)
   have y4:=xo hn (yq w 4) _ (U ja 4 _ rfl)
   have y5:=xo hn (yq w 5) _ (U ja 5 _ rfl)
   clear D K xp
   rw [if_pos (by rfl)];unfold Oper.wp;go_simp
   exact ⟨upd f 5 (.agg #[H s,H F,H li,H L,yj pr,yk O]),by simp [upd],zY (U xA) 5 _ hn (by decide) rfl⟩
  | 6,Z =>
   obtain rfl:=ya Z
   have hn:x[8]? = some false:=zz xp 12 6 8 (by kernel_rfl) hx (by simp) xz
   have g4:f 4 = .agg #[H next,.slice a l.length A]:=K.c hn 4 (ye D 4 rfl)
   have g5:f 5 = .agg #[H s,H F,H li,H L,yj pr,yk O]:=K.c hn 5 (ye D 5 rfl)
   have HRV:=Y (zn (U ji) (K.b hn) tg)
   have qX:=(K.b hn).size
   clear D K xp
   rw [if_pos (by rfl)];unfold Oper.wp;go_simp
   refine (U HCA V (U HRV)).mono ?_
   rintro e w4 ⟨vq4,vt4,rfl,hoq,het,xD⟩
   obtain ⟨av,cv,rfl⟩:∃ a c,vt4 = .slice a Ft.length c:=by
    rcases het.2 with ⟨e,e2⟩ | ⟨g,A,xu,e,_⟩
    ·exact ⟨none,0,by rw [e,e2]⟩
    ·exact ⟨_,_,e⟩
   obtain ⟨aq,cq,rfl⟩:∃ a c,vq4 = .slice a FL.length c:=by
    rcases hoq.2 with ⟨e,e2⟩ | ⟨g,A,xu,e,_⟩
    ·exact ⟨none,0,by rw [e,e2]⟩
    ·exact ⟨_,_,e⟩
   exact ⟨upd f 6 (.agg #[H (next + 1),.slice aq FL.length cq,H next,H s,H (tk pr),H Fl,H li,yk O,.slice av Ft.length cv]),by simp [upd,g4,g5],zY (ry_grow ca1_mono (U xA) hn xD) 6 _ hn (by decide) ⟨aq,cq,av,cv,rfl,zI hoq qX,zI het qX⟩⟩
  | 7,Z =>
   obtain rfl:=ya Z
   have hn:x[8]? = some false:=zz xp 12 7 8 (by kernel_rfl) hx (by simp) xz
   have qX:=(K.b hn).size
   clear D K xp
   rw [if_pos (by rfl)];unfold Oper.wp;go_simp
   exact ⟨upd f 7 (yp V 0),by simp [upd],zY (ry_grow ca1_mono (U xA) hn (eE _ _)) 7 _ hn (by decide) ⟨V.heap.size,rfl,qX,by rw [zh]; omega,zw V [H 0,.slice none 0 0,H 0,H 0,H 0,H 0,H 0,yk ⟨#[]⟩,.slice none 0 0] _,_,heap_alloc_new V _⟩⟩
  | 8,Z =>
   obtain rfl:=ya Z
   have hn:x[8]? = some false:=xz
   obtain ⟨aq,cq,av,cv,g6,hoq,het⟩:=K.c hn 6 (ye D 6 rfl)
   obtain ⟨b,g7,hSb,xT,xF,hbox⟩:=K.c hn 7 (ye D 7 rfl)
   have HQ:Hid (CQ1 hb next s (tk pr) Fl li O FL Ft f (V.setCells b 0 [H (next + 1),.slice aq FL.length cq,H next,H s,H (tk pr),H Fl,H li,yk O,.slice av Ft.length cv])):=⟨b,_,_,g7,hSb,matS_put (t:=⟨next,s,tk pr,Fl,li,O⟩) xF hbox hoq het (K.b hn).size,zo b hSb _ _ _ (K.b hn)⟩
   obtain ⟨y0,z0,q0⟩:=ze xF (j:=0) (by omega)
   obtain ⟨y1,z1,q1⟩:=ze xF (j:=1) (by omega)
   obtain ⟨y2,z2,q2⟩:=ze xF (j:=2) (by omega)
   obtain ⟨y3,z3,q3⟩:=ze xF (j:=3) (by omega)
   obtain ⟨y4,z4,q4⟩:=ze xF (j:=4) (by omega)
   obtain ⟨y5,z5,q5⟩:=ze xF (j:=5) (by omega)
   obtain ⟨y6,z6,q6⟩:=ze xF (j:=6) (by omega)
   obtain ⟨y7,z7,q7⟩:=ze xF (j:=7) (by omega)
   obtain ⟨y8,z8,q8⟩:=ze xF (j:=8) (by omega)
   clear D K xp xF hoq het hbox
   rw [if_pos (by rfl)];unfold Oper.wp;go_simp
   exact ⟨f,by simp [g6,g7],ry_writeN (U xA) hn (U HQ)⟩
  | n + 9,Z=>simp at Z
 ·rintro x xn V ⟨f,rfl,K⟩ hx xN
  have xq:=zR xN hx (by kernel_rfl)
  obtain ⟨b,vqm,vtm,e7,hSb,hMS,hBX⟩:=K.m (xq 8 (by simp))
  refine U xv _ _ ?_
  clear xv
  simp only [e7]
  generalize f 0 = v0,f 1 = v1,f 2 = v2,f 3 = v3,f 4 = v4,f 5 = v5,f 6 = v6
  have oi:=Y hMS
  have uA:=Y hBX
  clear K xq xN hx hMS hBX e7 ji qd vC HCA
  have hSV:hb.heap.size ≤ V.heap.size:=(U uA).size
  have qg:=Y (ens_raise (zP (U HE) ((U uA))) (yO (U HE).le hSV) tg)
  have HN6:=Y (zb (U ja) (U uA) xC)
  have HMC:=Y (U oi).cells
  have xT:=(U oi).lt
  have au:Hid (KeptBut mb B w V):=zk (zC (U xU) pF) (zC (U uA) (by omega))
  clear HE ja
  generalize V = W6 at oi qg HN6 HMC xT au hSV uA ⊢
  refine eI fun hR xv=>?_
  refine zj (RYA (fun f=>{ tmps:=#[I mb 0,.agg #[H s,H F,H li,H L,yj pr,yk O],M,yp w 0,I b 0,M,M,M,M,v0,v1,v2,v3,v4,v5,v6,f 0,f 1,f 2,f 3,f 4,f 5,f 6,f 7,M,M,M,M,M,M,M,M,M,M,M,M,M,M,M,M,M,M,M,M,M,M,M,M,M,M,M,M,M,M,M,M,M],defers:=[] }) (CA2 mb b next s F li L pr O) 7 (fun f W=>(∃ qu,EnS mb B W6.heap.size W gv gs gl next (.slice a l.length A) l t qu [⟨1,⟨1,s,F,li,L,0,pr,O⟩,next,0,0,0,0⟩])∧KeptBut mb W6.heap.size W6 W) W6) (by kernel_rfl) ?_ ?_ ?_
  ·exact ⟨fun _=>M,rfl,ry_start (by decide)⟩
  rotate_left
  ·rintro x xn V2 i op ⟨f,rfl,K⟩ xp hx Z xz D
   have xA:=Y K
   have xo:x[7]? = some false→∀ (p:Addr) u,W6.cell? p = some u→V2.cell? p = some u:=fun hn p u hu=>((K.b hn).cell (yL W6 _ hu)).trans hu
   match i,Z with
   | 0,Z =>
    obtain rfl:=ya Z
    have hn:x[7]? = some false:=zz xp 12 0 7 (by kernel_rfl) hx (by simp) xz
    clear D K xp
    rw [if_pos (by rfl)];unfold Oper.wp;go_simp
    exact ⟨upd f 0 (I mb 0),by simp [upd],zY (U xA) 0 _ hn (by decide) rfl⟩
   | 1,Z =>
    obtain rfl:=ya Z
    have hn:x[7]? = some false:=zz xp 12 1 7 (by kernel_rfl) hx (by simp) xz
    have y0:=xo hn (yq w 0) _ (U HN6 0 _ rfl)
    have y1:=xo hn (yq w 1) _ (U HN6 1 _ rfl)
    have y2:=xo hn (yq w 2) _ (U HN6 2 _ rfl)
    have y3:=xo hn (yq w 3) _ (U HN6 3 _ rfl)
    have y4:=xo hn (yq w 4) _ (U HN6 4 _ rfl)
    have y5:=xo hn (yq w 5) _ (U HN6 5 _ rfl)
    clear D K xp
    rw [if_pos (by rfl)];unfold Oper.wp;go_simp
    exact ⟨upd f 1 (.agg #[H s,H F,H li,H L,yj pr,yk O]),by simp [upd],zY (U xA) 1 _ hn (by decide) rfl⟩
   | 2,Z =>
    obtain rfl:=ya Z
    have hn:x[7]? = some false:=zz xp 12 2 7 (by kernel_rfl) hx (by simp) xz
    have g1:f 1 = .agg #[H s,H F,H li,H L,yj pr,yk O]:=K.c hn 1 (ye D 1 rfl)
    clear D K xp
    rw [if_pos (by rfl)];unfold Oper.wp;go_simp
    refine (U jf V2).mono ?_
    rintro e w4 ⟨rfl,xD⟩
    exact ⟨upd f 2 (.agg (yx 1 s F li L 0 pr O).toArray),by simp [upd,g1],zY (ry_grow ca2_mono (U xA) hn xD) 2 _ hn (by decide) rfl⟩
   | 3,Z =>
    obtain rfl:=ya Z
    have hn:x[7]? = some false:=zz xp 12 3 7 (by kernel_rfl) hx (by simp) xz
    clear D K xp
    rw [if_pos (by rfl)];unfold Oper.wp;go_simp
    exact ⟨upd f 3 (I b 2),by simp [upd],zY (U xA) 3 _ hn (by decide) rfl⟩
   | 4,Z =>
    obtain rfl:=ya Z
    have hn:x[7]? = some false:=zz xp 12 4 7 (by kernel_rfl) hx (by simp) xz
    have g3:f 3 = I b 2:=K.c hn 3 (ye D 3 rfl)
    clear D K xp
    rw [if_pos (by rfl)];unfold Oper.wp;go_simp
    exact ⟨upd f 4 (I b 2),by simp [upd,g3],zY (U xA) 4 _ hn (by decide) rfl⟩
   | 5,Z =>
    obtain rfl:=ya Z
    have hn:x[7]? = some false:=zz xp 12 5 7 (by kernel_rfl) hx (by simp) xz
    have g4:f 4 = I b 2:=K.c hn 4 (ye D 4 rfl)
    have z2:=xo hn (J b 2) _ (U HMC 2 _ rfl)
    clear D K xp
    rw [if_pos (by rfl)];unfold Oper.wp;go_simp
    exact ⟨upd f 5 (H next),by simp [upd,g4],zY (U xA) 5 _ hn (by decide) rfl⟩
   | 6,Z =>
    obtain rfl:=ya Z
    have hn:x[7]? = some false:=zz xp 12 6 7 (by kernel_rfl) hx (by simp) xz
    have g2:f 2 = .agg (yx 1 s F li L 0 pr O).toArray:=K.c hn 2 (ye D 2 rfl)
    have g5:f 5 = H next:=K.c hn 5 (ye D 5 rfl)
    clear D K xp
    rw [if_pos (by rfl)];unfold Oper.wp;go_simp
    exact ⟨upd f 6 (.agg (yv 1 1 s F li L 0 pr O next 0 0 0 0).toArray),by simp [upd,g2,g5],zY (U xA) 6 _ hn (by decide) rfl⟩
   | 7,Z =>
    obtain rfl:=ya Z
    have hn:x[7]? = some false:=xz
    have g0:f 0 = I mb 0:=K.c hn 0 (ye D 0 rfl)
    have g6:f 6 = .agg (yv 1 1 s F li L 0 pr O next 0 0 0 0).toArray:=K.c hn 6 (ye D 6 rfl)
    have vH:=Y (zP (U qg) (K.b hn))
    have xT:=K.b hn
    have HKV:Hid (KeptBut mb W6.heap.size W6 V2):=zC xT tg
    have qX:=xT.size
    clear D K xp xT
    rw [if_pos (by rfl)];unfold Oper.wp;go_simp
    refine (cB ⟨1,⟨1,s,F,li,L,0,pr,O⟩,next,0,0,0,0⟩ V2 (U vH) (by simp)).mono ?_
    rintro e w5 ⟨rfl,⟨vo5,qO⟩,-,ht5⟩
    exact ⟨upd f 7 (.tuple #[]),by simp [upd,g0,g6],ry_write (U xA) hn _ ⟨⟨vo5,qO⟩,zk (U HKV) (cM ht5 qX (fun g hg=>by simp [Value.ownBlock] at hg))⟩⟩
   | n + 8,Z=>simp at Z
  ·rintro x xn V2 ⟨f,rfl,K⟩ hx xN
   have xq:=zR xN hx (by kernel_rfl)
   obtain ⟨hE7,hK7⟩:=K.m (xq 7 (by simp))
   refine U xv _ _ ?_
   clear xv
   dsimp only
   generalize f 0 = u0,f 1 = u1,f 2 = u2,f 3 = u3,f 4 = u4,f 5 = u5,f 6 = u6,f 7 = u7
   have uK:Hid ((∃ qu,EnS mb B W6.heap.size V2 gv gs gl next (.slice a l.length A) l t qu (⟨1,⟨1,s,F,li,L,0,pr,O⟩,next,0,0,0,0⟩ :: Ft.take 0))∧KeptBut mb W6.heap.size W6 V2):=⟨by simpa using hE7,hK7⟩
   clear K xq xN hx hE7 hK7 qg
   obtain ⟨av,cv,hvt⟩:=zU (U oi).erow
   subst hvt
   have hmS:mb < hb.heap.size:=yK qE (U xU).size
   have hBS:B ≤ hb.heap.size:=by omega
   have HMK:Hid (∀ wr:World,KeptBut mb W6.heap.size W6 wr→MatS b hb.heap.size wr (next + 1) vqm FL ⟨next,s,tk pr,Fl,li,O⟩ (.slice av Ft.length cv) Ft):=fun wr hk=>matS_kept (U oi) hk hmS hSb
   have HNK:Hid (∀ wr:World,KeptBut mb W6.heap.size W6 wr→wr.rangeAt w.heap.size 0 [H s,H F,H li,H L,yj pr,yk O]):=fun wr hk=>kb_range hk (U HN6) (by omega)
   have hF20:Ft.length ≤ 21:=by simpa using U HMF
   have hq6:Hid (∀ g,(Value.slice a l.length A).ownBlock = some g→g < hb.heap.size):=fun g hg=>yK ((U HOR).lt g hg).2 (U xU).size
   have HVT:Hid (∀ g,(Value.slice av Ft.length cv).ownBlock = some g→g < W6.heap.size):=fun g hg=>((U oi).erow.lt g hg).2
   clear oi HN6 HMC HMF HOR uA
   have z8:V2.cell? (J b 8) = some (.slice av Ft.length cv):=(U HMK V2 (U uK).2).cells 8 _ rfl
   refine eI fun hR xv=>?_
   go_wp2_with fail
   clear z8
   go_loopw [27] (fun iv wr=>∃ (k:Nat),k ≤ Ft.length∧iv = H k∧Hid ((∃ qu,EnS mb B W6.heap.size wr gv gs gl next (.slice a l.length A) l t qu (⟨1,⟨1,s,F,li,L,0,pr,O⟩,next,0,0,0,0⟩ :: Ft.take k))∧KeptBut mb W6.heap.size W6 wr)) (fun iv _=>Ft.length - (intOf iv).toNat)
   case atStart=>exact ⟨0,Nat.zero_le _,rfl,U uK⟩
   case round =>
    obtain ⟨k,hk,rfl,ux⟩:=hrel
    by_cases xL:k < Ft.length
    ·obtain ⟨e,jh⟩:∃ e,Ft[k]? = some e:=⟨_,yI xL⟩
     obtain ⟨a',c',e1,_,xp⟩:=cE (bK Ev.len (by omega) (U HMK wr (U ux).2).erow)
     obtain ⟨b',off,e2,kw,xp⟩:=xp (by rintro rfl; simp at jh)
     simp only [Value.slice.injEq] at e1
     obtain ⟨e1,-,-⟩:=e1
     rw [e2] at e1
     subst e1
     obtain ⟨g0,g1,g2,g3,g4,g5,g6,g7,g8,g9,qx,vw,xZ,jV⟩:=cw (xp k e jh)
     have uy:(k:Int) < Ft.length:=by omega
     have hk0:(0:Int) ≤ k:=by omega
     obtain ⟨⟨vo6,kj⟩,kM⟩:=U ux
     have vp:=eE wr (E (yv e.kind e.cmd.k e.cmd.s e.cmd.t e.cmd.l e.cmd.q e.cmd.i e.cmd.p e.cmd.g e.id e.other e.qty e.price e.reason).toArray 46)
     have hszW:W6.heap.size ≤ wr.heap.size:=kM.size
     have HEY:=Y (zP kj vp)
     have HKY:=Y (zk kM (zC vp hszW))
     have vF:Hid (Ft.take (k + 1) = Ft.take k ++ [e]):=by show _ = _; rw [List.take_add_one,jh]; rfl
     have HLN:Hid ((⟨1,⟨1,s,F,li,L,0,pr,O⟩,next,0,0,0,0⟩ :: Ft.take k:List Ev).length ≤ 1000):=by show _ ≤ _; simp [List.length_take]; omega
     have hszY:W6.heap.size ≤ (wr.alloc (E (yv e.kind e.cmd.k e.cmd.s e.cmd.t e.cmd.l e.cmd.q e.cmd.i e.cmd.p e.cmd.g e.id e.other e.qty e.price e.reason).toArray 46)).heap.size:=yO hszW vp.size
     clear ux kj kM xp vp jh e2 kw
     have hsf:=sfl
     go_wp2_with fail
     generalize (wr.alloc (E (yv e.kind e.cmd.k e.cmd.s e.cmd.t e.cmd.l e.cmd.q e.cmd.i e.cmd.p e.cmd.g e.id e.other e.qty e.price e.reason).toArray 46)) = yb at HEY HKY hszY ⊢
     refine (cB e yb (U HEY) (U HLN)).mono ?_
     rintro e w6 ⟨rfl,⟨vo7,hE7⟩,-,ht7⟩
     have HN:Hid ((∃ qu,EnS mb B W6.heap.size w6 gv gs gl next (.slice a l.length A) l t qu (⟨1,⟨1,s,F,li,L,0,pr,O⟩,next,0,0,0,0⟩ :: Ft.take (k + 1)))∧KeptBut mb W6.heap.size W6 w6):=⟨⟨vo7,by rw [U vF]; exact hE7⟩,zk (U HKY) (cM ht7 hszY (fun g hg=>((U HEY).erow.lt g hg).1))⟩
     clear hE7 ht7
     go_wp2_with fail
     go_roundw
     case rel=>exact ⟨k + 1,by omega,by go_num,U HN⟩
     case measure=>simp [intOf]; omega
    ·obtain rfl:k = Ft.length:=by omega
     rw [xa tg] at ux
     have uy:¬ (Ft.length:Int) < Ft.length:=by omega
     have HE8:=Y (U ux).1
     have HK8:=Y (U ux).2
     have aw:=Y (U HMK wr (U ux).2)
     have HN8:=Y (U HNK wr (U ux).2)
     have HKw8:Hid (KeptBut mb B w wr):=zk (U au) (kept_less (U ux).2 (by omega))
     clear ux uK HMK HNK
     go_wp2_with fail
     refine U xv _ _ ?_
     clear xv
     have y5:wr.cell? (J b 5) = some (H Fl):=(U aw).cells 5 _ rfl
     refine eI fun hR xv=>?_
     by_cases hFl:0 < Fl
     ·have y0:wr.cell? (yq w 0) = some (H s):=U HN8 0 _ rfl
      have y1:wr.cell? (yq w 1) = some (H F):=U HN8 1 _ rfl
      have y2:wr.cell? (yq w 2) = some (H li):=U HN8 2 _ rfl
      have y3:wr.cell? (yq w 3) = some (H L):=U HN8 3 _ rfl
      have y4:wr.cell? (yq w 4) = some (yj pr):=U HN8 4 _ rfl
      have y6:wr.cell? (yq w 5) = some (yk O):=U HN8 5 _ rfl
      go_wp2_with fail
      refine (U HRS wr).mono ?_
      rintro e w9 ⟨rfl,hb9⟩
      obtain ⟨vo8,hE8⟩:=U HE8
      have HE9:=Y (zP hE8 hb9)
      have HM9:=Y (dp (U aw) hb9)
      have HKw9:Hid (KeptBut mb B w w9):=zk (U HKw8) (zC hb9 (yO pF (yO (U HKw8).size tg)))
      have hl22:(⟨1,⟨1,s,F,li,L,0,pr,O⟩,next,0,0,0,0⟩ :: Ft:List Ev).length ≤ 1000:=by simp; omega
      clear hb9 hE8 y0 y1 y2 y3 y4 y5 y6 HE8 aw HN8 HK8
      cases qK:aO F
      ·have HAL:Hid (accL ⟨kk,s,F,li,L,ii,pr,O⟩ next (FL,Fl,Ft) = FL∧accE ⟨kk,s,F,li,L,ii,pr,O⟩ next (FL,Fl,Ft) = ⟨1,⟨1,s,F,li,L,0,pr,O⟩,next,0,0,0,0⟩ :: Ft ++ [⟨5,zCm,next,0,Fl,0,0⟩]):=⟨by simp [accL,qK],by simp [accE,hFl,qK]⟩
       have x2:w9.cell? (J b 2) = some (H next):=(U HM9).cells 2 _ rfl
       go_wp2_with fail
       refine (cB ⟨5,zCm,next,0,Fl,0,0⟩ w9 (U HE9) hl22).mono ?_
       rintro e po ⟨rfl,hE10,hk10,ht10⟩
       have HEA:=Y hE10
       have HMA:Hid (MatS b hb.heap.size po (next + 1) vqm FL ⟨next,s,tk pr,Fl,li,O⟩ (.slice av Ft.length cv) Ft):=matS_told (U HM9) ht10 (U HE9).erow hmS hSb (fun g hg e=>by have:=U HVT g hg; have:=((U HE9).erow.lt g e).1; omega)
       have HKA:=Y (zk (U HKw9) hk10)
       clear hE10 hk10 ht10 x2
       go_wp2_with fail
       refine U xv _ _ ?_
       clear xv
       have zf0:po.cell? (J b 0) = some (H (next + 1)):=(U HMA).cells 0 _ rfl
       obtain ⟨aF,cF,hF⟩:=zU (U HMA).orow
       have zf1:po.cell? (J b 1) = some (.slice aF (FL).length cF):=by rw [← hF]; exact (U HMA).cells 1 _ rfl
       obtain ⟨voF,kI⟩:=U HEA
       have zm1:po.cell? (J mb 1) = some (H next):=kI.cells 1 _ rfl
       have zm2:po.cell? (J mb 2) = some (.slice a l.length A):=kI.cells 2 _ rfl
       have fm1:po.frozen? (J mb 1) = false:=(kI.there 1 (by omega)).2
       have fm2:po.frozen? (J mb 2) = false:=(kI.there 2 (by omega)).2
       have ai:=Y (ens_book kI (next + 1) (zI (hF ▸ (U HMA).orow) hBS))
       have aj:Hid (KeptBut mb B w _):=zk (U HKA) (zk (cP po 1 (H (next + 1))) (cP _ 2 (.slice aF (FL).length cF)))
       generalize (FL).length = nF at ai aj zf1
       clear kI
       go_wp2_with fail
       go_end0
       exact ⟨rfl,⟨_,_,voF,by rw [(U HAL).1,(U HAL).2]; exact U ai⟩,U aj⟩
      ·have HAL:Hid (accL ⟨kk,s,F,li,L,ii,pr,O⟩ next (FL,Fl,Ft) = FL ++ [(⟨next,s,tk pr,Fl,li,O⟩:Od)]∧accE ⟨kk,s,F,li,L,ii,pr,O⟩ next (FL,Fl,Ft) = ⟨1,⟨1,s,F,li,L,0,pr,O⟩,next,0,0,0,0⟩ :: Ft ++ [⟨4,zCm,next,0,Fl,0,0⟩]):=⟨by simp [accL,qK,hFl],by simp [accE,hFl,qK]⟩
       go_wp2_with fail
       refine (rest_took b hb.heap.size (next + 1) vqm FL ⟨next,s,tk pr,Fl,li,O⟩ _ Ft w9 (U HM9) (by have:=(U oU).1.len; omega)).mono ?_
       rintro e po ⟨vqr,rfl,hMr,ob⟩
       have HE10:=Y (ens_far (U HE9) (U HM9) ob (U hq6) hmS hSb)
       have HMr:=Y hMr
       have HKw10:Hid (KeptBut mb B w po):=zk (U HKw9) ⟨ob.os,ob.tape,ob.output,ob.size,fun k hk _=>ob.block k (by have:=(U HM9).le; omega) (by omega) (fun e=>by have:=((U HM9).orow.lt k e.symm).1; omega)⟩
       have x2:po.cell? (J b 2) = some (H next):=hMr.cells 2 _ rfl
       clear hMr ob HE9 HM9
       go_wp2_with fail
       refine (cB ⟨4,zCm,next,0,Fl,0,0⟩ po (U HE10) hl22).mono ?_
       rintro e w11 ⟨rfl,hE11,hk11,ht11⟩
       have HEA:=Y hE11
       have HMA:Hid (MatS b hb.heap.size w11 (next + 1) vqr (FL ++ [(⟨next,s,tk pr,Fl,li,O⟩:Od)]) ⟨next,s,tk pr,Fl,li,O⟩ (.slice av Ft.length cv) Ft):=matS_told (U HMr) ht11 (U HE10).erow hmS hSb (fun g hg e=>by have:=U HVT g hg; have:=((U HE10).erow.lt g e).1; omega)
       have HKA:=Y (zk (U HKw10) hk11)
       clear hE11 hk11 ht11 x2
       go_wp2_with fail
       refine U xv _ _ ?_
       clear xv
       have zf0:w11.cell? (J b 0) = some (H (next + 1)):=(U HMA).cells 0 _ rfl
       obtain ⟨aF,cF,hF⟩:=zU (U HMA).orow
       have zf1:w11.cell? (J b 1) = some (.slice aF (FL ++ [(⟨next,s,tk pr,Fl,li,O⟩:Od)]).length cF):=by rw [← hF]; exact (U HMA).cells 1 _ rfl
       obtain ⟨voF,kI⟩:=U HEA
       have zm1:w11.cell? (J mb 1) = some (H next):=kI.cells 1 _ rfl
       have zm2:w11.cell? (J mb 2) = some (.slice a l.length A):=kI.cells 2 _ rfl
       have fm1:w11.frozen? (J mb 1) = false:=(kI.there 1 (by omega)).2
       have fm2:w11.frozen? (J mb 2) = false:=(kI.there 2 (by omega)).2
       have ai:=Y (ens_book kI (next + 1) (zI (hF ▸ (U HMA).orow) hBS))
       have aj:Hid (KeptBut mb B w _):=zk (U HKA) (zk (cP w11 1 (H (next + 1))) (cP _ 2 (.slice aF (FL ++ [(⟨next,s,tk pr,Fl,li,O⟩:Od)]).length cF)))
       generalize (FL ++ [(⟨next,s,tk pr,Fl,li,O⟩:Od)]).length = nF at ai aj zf1
       clear kI
       go_wp2_with fail
       go_end0
       exact ⟨rfl,⟨_,_,voF,by rw [(U HAL).1,(U HAL).2]; exact U ai⟩,U aj⟩
     ·have HAL:Hid (accL ⟨kk,s,F,li,L,ii,pr,O⟩ next (FL,Fl,Ft) = FL∧accE ⟨kk,s,F,li,L,ii,pr,O⟩ next (FL,Fl,Ft) = ⟨1,⟨1,s,F,li,L,0,pr,O⟩,next,0,0,0,0⟩ :: Ft):=⟨by simp [accL,hFl],by simp [accE,hFl]⟩
      go_wp2_with fail
      refine U xv _ _ ?_
      clear xv
      have zf0:wr.cell? (J b 0) = some (H (next + 1)):=(U aw).cells 0 _ rfl
      obtain ⟨aF,cF,hF⟩:=zU (U aw).orow
      have zf1:wr.cell? (J b 1) = some (.slice aF (FL).length cF):=by rw [← hF]; exact (U aw).cells 1 _ rfl
      obtain ⟨voF,kI⟩:=U HE8
      have zm1:wr.cell? (J mb 1) = some (H next):=kI.cells 1 _ rfl
      have zm2:wr.cell? (J mb 2) = some (.slice a l.length A):=kI.cells 2 _ rfl
      have fm1:wr.frozen? (J mb 1) = false:=(kI.there 1 (by omega)).2
      have fm2:wr.frozen? (J mb 2) = false:=(kI.there 2 (by omega)).2
      have ai:=Y (ens_book kI (next + 1) (zI (hF ▸ (U aw).orow) hBS))
      have aj:Hid (KeptBut mb B w _):=zk (U HKw8) (zk (cP wr 1 (H (next + 1))) (cP _ 2 (.slice aF (FL).length cF)))
      generalize (FL).length = nF at ai aj zf1
      clear kI
      go_wp2_with fail
      go_end0
      exact ⟨rfl,⟨_,_,voF,by rw [(U HAL).1,(U HAL).2]; exact U ai⟩,U aj⟩
end Go.Proofs.YtbakanofkghmiaaGreat
