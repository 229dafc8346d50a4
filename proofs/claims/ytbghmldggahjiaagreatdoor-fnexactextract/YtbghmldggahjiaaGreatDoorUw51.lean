/-.-/
import Derived.Test.YtbghmldggahjiaaGreatDoorUw50
import Derived.Laws.Cover2
set_option linter.unusedVariables false
set_option maxHeartbeats 6400000
set_option maxRecDepth 100000
namespace Go.Proofs.YtbghmldggahjiaaGreatDoor
open Go.RowKit
def ch (n:Int):ByteArray:=strB [n]
def digF:Nat->Nat->ByteArray->ByteArray
 | 0,_,o=>o
 | f+1,k,o=>if k=0 then o else digF f (k / 10) (ch (48+(k:Int) % 10)++o)
theorem digF_zero (f:Nat)(o:ByteArray):digF f 0 o=o:=by cases f <;> rfl
theorem digF_more:∀(f k:Nat) (o:ByteArray),k<=f->0<k->digF f k o=digF (f-1) (k / 10) (ch (48+(k:Int) % 10)++o)
 | 0,k,o,h,h0=>by omega
 | f+1,k,o,h,h0=>by simp only[digF,Nat.add_sub_cancel];rw[if_neg (by omega)]
def markS (k:Nat):ByteArray:=⟨#[109]⟩++digF k k ⟨#[]⟩
theorem one_text (b:Nat)(x:Int)(W:World)(h:W.cell? (U b 0)=some (.int .u8 x)) :
  (convert 22 9 (.slice (some (U b 0)) 1 1)).run Tryz.prog W = .ok (yk (ch x)) W:=by
 refine gH _ [x] W ⟨_,1,rfl,by simp,fun _=>⟨b,0,rfl,fun i hi=>?_⟩⟩;obtain rfl:i=0:=by simp at hi;omega
 exact h
theorem markText_any (ho:Nat)(w:World)(h0:0<ho)(D:ho<=1073741824) :
  Calls Tryz.prog 24 #[H ho] w fun e w'=>e=ym (yk (markS ho))/\yn w w':=by
 have h0':¬ ((ho:Int)<=0):=by omega
 go_enter Tryz.func24,Tryz.ntmps24;go_wp2_with fail;go_loopw [0,3] (fun kv ov wr=>∃(f k:Nat) (o:ByteArray),kv=H k/\k<=f/\k<=ho/\ov=yk o/\o.size+k<=ho/\Hid (digF f k o=digF ho ho ⟨#[]⟩)/\yn w wr) (fun kv _ _=>(intOf kv).toNat)
 case atStart=>exact⟨ho,ho,⟨#[]⟩,rfl,Nat.le_refl _,Nat.le_refl _,rfl,by rw[show(⟨#[]⟩:ByteArray).size=0 from rfl];omega,rfl,Below.refl _ _⟩
 case round =>
  obtain⟨f,k,o,rfl,hkf,X,rfl,uX,K,xk⟩:=hrel;have HB:=Q xk;clear xk
  by_cases oB:0<k
  ·have hk0':(0:Int)<k:=by omega
   have hcv:=one_text wr.heap.size (48+(k:Int) % 10) (wr.alloc (J #[.int .u8 (48+(k:Int) % 10)] 5)) (cell_of_row _ wr.heap.size 0 _ _ _ (heap_alloc_new wr _));have HO:=Q ((digF_more f k o hkf oB).symm.trans K);clear K;have qV:(ch (48+(k:Int) % 10)).size=1:=rfl;generalize ch (48+(k:Int) % 10)=c at *;go_wp2_with fail;go_roundw
   case rel=>exact⟨f-1,k / 10,c++o,by go_num,by omega,by omega,rfl,by rw[ByteArray.size_append];omega,Z HO,(Z HB).alloc (Z HB).size _⟩
   case measure=>simp[intOf];omega
  ·have hk0':¬ ((0:Int)<k):=by omega
   have HO:Hid (o=digF ho ho ⟨#[]⟩):=by
    have h:=Z K;rw[show k=0 by omega,digF_zero] at h;exact h
   clear K;go_wp2_with fail;go_ret;refine⟨?_,Z HB⟩;rw[Z HO];rfl
section
variable {α:Type} (f:α->List Value) (sz:Nat)
def MarkR (n g:Nat)(w wr:World)(done:List α):Prop:=
 (∀i c,done[i]? = some c->wr.rangeAt g (0+i*sz) (f c))/\wr.there g 0 (n*sz)/\w.grownBy wr (some g)/\done.length<=n/\g<wr.heap.size
variable {f sz}
theorem lD {w:World}(g:Nat):∀(vs:List Value) (o:Nat) (wr:World),w.grownBy wr (some g)->w.grownBy (wr.setCells g o vs) (some g)
 | [],_,_,h=>h
 | v::r,o,wr,h=>by rw[World.setCells];exact lD g r (o+1) _ (zC h (eF wr (U g o) v))
theorem range_append {w:World}{b o:Nat}{a c:List Value}(D:w.rangeAt b o a)(E:w.rangeAt b (o+a.length) c):w.rangeAt b o (a++c):=fun j v hv=>by
 by_cases hj:j<a.length
 ·rw[List.getElem?_append_left hj] at hv;exact D j v hv
 ·rw[List.getElem?_append_right (by omega)] at hv;have:=E _ v hv;rw[show o+a.length+(j-a.length)=o+j by omega] at this;exact this
theorem lA {w:World}{g i m n:Nat}(h:w.there g 0 n)(hi:i+m<=n):w.there g i m:=fun j hj=>by
 have:=h (i+j) (by omega);rw[Nat.zero_add] at this;exact this
theorem mark_stepR {n g C:Nat}{w wr W2:World}{done:List α}(x:α)(a:List Value)(z:Value)(hx:f x=a ++ [z])(h:MarkR f sz n g w wr done)(hn:done.length<n)(hf:∀c,(f c).length=sz)
  (A:Below C (wr.setCells g (done.length*sz) a) W2) (hC:wr.heap.size<=C):MarkR f sz n g w (W2.setCells g (done.length*sz+a.length) [z]) (done ++ [x]):=by
 obtain⟨D,E,h3,h4,h5⟩:=h;have uX:a.length+1=sz:=by rw[<- hf x,hx];simp
 have uB:done.length*sz+sz<=n*sz:=by
  have:=Nat.mul_le_mul_right sz (show done.length+1<=n by omega);rw[Nat.add_mul] at this;omega
 have xH:g<C:=by omega
 have t1:(wr.setCells g (done.length*sz) a).there g 0 (n*sz):=xb E _ _ _;have t2:=zl t1 A xH;have ra:W2.rangeAt g (done.length*sz) a:=zd (yX _ _ _ _ (lA E (by omega))) A xH;refine⟨fun i c hc=>?_,xb t2 _ _ _,?_,by simp;omega,?_⟩
 ·by_cases hi:i<done.length
  ·rw[List.getElem?_append_left hi] at hc;have jd:=Nat.mul_le_mul_right sz (show i+1<=done.length by omega);rw[Nat.add_mul] at jd;refine World.rangeAt_setCells_apart (zd (World.rangeAt_setCells_apart (D i c hc) _ _ _ (.inr (.inl ?_))) A xH) _ _ _ (.inr (.inl ?_))
   ·rw[hf c];omega
   ·rw[hf c];omega
  ·have xD:i<(done ++ [x]).length:=(yG.1 hc).1;have jd:i=done.length:=by simp at xD;omega
   subst jd;simp only[List.getElem?_append_right ya,Nat.sub_self,List.getElem?_cons_zero,Option.some.injEq] at hc;subst hc;rw[Nat.zero_add,hx];exact range_append (World.rangeAt_setCells_apart ra _ _ _ (.inr (.inl (by omega)))) (yX _ _ _ _ (lA t2 (by simp;omega)))
 ·exact lD g _ _ _ (zC (lD g _ _ _ h3) (gf A (by rw[fH];exact hC)))
 ·rw[fH];have:=A.size;rw[fH] at this;omega
end
theorem markText_at (x:Int)(ho:Nat)(w:World)(hx:x=ho)(h0:0<ho)(D:ho<=1073741824) :
  Calls Tryz.prog 24 #[H x] w fun e w'=>e=ym (yk (markS ho))/\yn w w':=by
 subst hx;exact markText_any ho w h0 D
def markC (k:Nat):Cm:=⟨k,(k:Int)+1,(k:Int)+1+1,(k:Int)+1+1+1,(k:Int)+1+1+1+1,(k:Int)+1+1+1+1+1,floatOfInt .f64 ((k:Int)+1+1+1+1+1+1),markS (k+7)⟩
def mark7 (k:Nat):List Value:=[H (k:Int),H ((k:Int)+1),H ((k:Int)+1+1),H ((k:Int)+1+1+1),H ((k:Int)+1+1+1+1),H ((k:Int)+1+1+1+1+1),yj (floatOfInt .f64 ((k:Int)+1+1+1+1+1+1))]
def eU (k n:Nat):List Cm:=(List.range n).map fun i=>markC (k+8*i)
theorem gW (k n:Nat):(eU k n).length=n:=by simp[eU]
theorem marksC_more (k n:Nat):eU k (n+1)=eU k n ++ [markC (k+8*n)]:=by simp[eU,List.range_succ]
theorem marksC_get {k n i:Nat}(h:i<n):(eU k n)[i]? = some (markC (k+8*i)):=by simp[eU,h]
theorem markCmdS_any (g len cap k:Nat)(w:World)(hl:len<=2097152)(oB:0<k)(hk1:k<=1000000000)(M:g<w.heap.size)(ht:w.there g 0 (len*8)) :
  Calls Tryz.prog 16 #[.slice (some (U g 0)) len cap,H k] w fun e w'=>e=ym (H ((k+8*len:Nat):Int))/\MarkR Cm.vs 8 len g w w' (eU k len):=by
 have HM:Hid (MarkR Cm.vs 8 len g w w (eU k 0)):=⟨by simp[eU],ht,yR _ _,by simp[eU],M⟩;have hsf:=sfl;clear ht;go_enter Tryz.func16,Tryz.ntmps16;go_wp2_with fail;go_loopw [1,5] (fun kv i wr=>∃m kk:Nat,m<=len/\i=H m/\kv=H kk/\Hid (kk=k+8*m)/\MarkR Cm.vs 8 len g w wr (eU k m)) (fun _ i _=>len-(intOf i).toNat)
 case atStart=>exact⟨0,k,Nat.zero_le _,rfl,rfl,rfl,Z HM⟩
 case round =>
  obtain⟨m,kk,hm,rfl,rfl,ar,hmr⟩:=hrel;have HR:=Q hmr;have hkb:(kk:Int)<=1020000000:=by have:=Z ar;omega
  clear hmr HM
  by_cases xH:m<len
  ·obtain⟨⟨x0,y0,z0⟩,⟨x1,y1,z1⟩,⟨x2,y2,z2⟩,⟨x3,y3,z3⟩,⟨x4,y4,z4⟩,⟨x5,y5,z5⟩,⟨x6,y6,z6⟩,x7,y7,z7⟩:=there8 (lA (i:=m*8) (m:=8) (Z HR).2.1 (by omega));have uq:(m:Int)<len:=by omega
   go_wp2_with fail;refine(markText_at _ (kk+7) _ (by omega) (by omega) (by omega)).mono ?_;rintro e W2 ⟨rfl,A⟩;have cj:Below (wr.setCells g (m*8) (mark7 kk)).heap.size (wr.setCells g (m*8) (mark7 kk)) W2:=A;have T2:=zl (xb (Z HR).2.1 g (m*8) (mark7 kk)) cj (by rw[fH];exact(Z HR).2.2.2.2);obtain⟨v7,c7,f7⟩:=zI (lA (i:=m*8+7) (m:=1) T2 (by omega)) 0 (by omega);have HB:=Q cj;clear A cj T2 y0 z0 y1 z1 y2 z2 y3 z3 y4 z4 y5 z5 y6 z6 y7 z7;rw[Nat.add_zero] at c7 f7;go_wp2_with fail;go_roundw
   case rel =>
    refine⟨m+1,kk+8,by omega,by go_num,congrArg (H) (by omega),by have:=Z ar;show kk+8 = _;omega,?_⟩;have h:=mark_stepR (markC kk) (mark7 kk) (yk (markS (kk+7))) rfl (Z HR) (by rw[gW];exact xH) Cm.len (by rw[gW];exact Z HB) (by rw[fH];exact Nat.le_refl _);rw[gW,Z ar,<- marksC_more,<- Z ar] at h;exact h
   case measure=>simp[intOf];omega
  ·go_wp2_with fail;go_ret;obtain rfl:m=len:=by omega
   have h:=Z ar;subst h;exact⟨rfl,Z HR⟩
theorem markCmdS_nil (a:Option Addr)(cap k:Nat)(w:World) :
  Calls Tryz.prog 16 #[.slice a 0 cap,H k] w fun e w'=>e=ym (H k)/\w'=w:=by
 go_enter Tryz.func16,Tryz.ntmps16;go_wp2;refine wp_loop_rounds 1 ?_;rw[rounds_succ];go_wp2;go_ret;exact⟨rfl,rfl⟩
theorem markC_own {B:Nat}(v:Value)(l:List Cm)(w:World)(h:OwnR Cm.vs 8 B w v l)(hl:l.length<=2097152) :
  Calls Tryz.prog 16 #[v,H 1] w fun e w'=>e=ym (H ((1+8*l.length:Nat):Int))/\OwnR Cm.vs 8 B w' v (eU 1 l.length) /\
   ∃G,w.grownBy w' G/\∀g,G=some g->v.ownBlock=some g/\B<=g/\l ≠ []:=by
 obtain⟨a,cap,rfl,xD,h⟩:=h
 by_cases xy:l = []
 ·subst xy;refine(markCmdS_nil a cap 1 w).mono ?_;rintro e w' ⟨rfl,rfl⟩;exact⟨rfl,⟨a,cap,rfl,by simp[eU],fun h=>absurd rfl h⟩,none,yR _ _,fun g M=>by cases M⟩
 ·obtain⟨g,rfl,h0,D,E,h3⟩:=h xy;refine(markCmdS_any g l.length cap 1 w hl (by omega) (by omega) D h3).mono ?_;rintro e w' ⟨rfl,m1,m2,m3,m4,m5⟩;refine⟨rfl,⟨_,cap,by rw[gW],by rw[gW];exact xD,fun _=>⟨g,rfl,h0,m5,m1,by rw[gW];exact m2⟩⟩,some g,m3,fun g' M=>?_⟩;obtain rfl:=Option.some.inj M;exact⟨rfl,h0,xy⟩
theorem heldCmdS_any (v:Value)(len k:Nat)(w:World)(hl:len<=2097152)(oB:0<k)(hk1:k<=1000000000)(hr:RdR Cm.vs 8 w v (eU k len)) :
  Calls Tryz.prog 17 #[v,H k] w fun e w'=>e=ym (H ((k+8*len:Nat):Int))/\yn w w':=by
 obtain⟨a,cap,rfl,_,hc⟩:=hr;rw[gW]
 have xp:∀(m:Nat),m<len->∃b off,a=some (U b off)/\b<w.heap.size/\w.rangeAt b (off+m*8) (markC (k+8*m)).vs:=by
  intro m hm;have M:=marksC_get (k:=k) hm;obtain⟨b,off,D,E,h3⟩:=hc (by intro h;rw[h] at M;simp at M);exact⟨b,off,D,E,h3 m _ M⟩
 have HC:=Q xp;clear xp hc;go_enter Tryz.func17,Tryz.ntmps17;go_wp2_with fail;go_loopw [1,5] (fun kv i wr=>∃m kk:Nat,m<=len/\i=H m/\kv=H kk/\Hid (kk=k+8*m)/\yn w wr) (fun _ i _=>len-(intOf i).toNat)
 case atStart=>exact⟨0,k,Nat.zero_le _,rfl,rfl,rfl,Below.refl _ _⟩
 case round =>
  obtain⟨m,kk,hm,rfl,rfl,ar,xk⟩:=hrel;have HB:=Q xk;have hkb:(kk:Int)<=1020000000:=by have:=Z ar;omega
  clear xk
  by_cases xH:m<len
  ·obtain⟨b,off,rfl,A,xm⟩:=Z HC m xH;rw[<- Z ar] at xm;obtain⟨g0,g1,g2,g3,g4,g5,g6,g7⟩:=cm_cells (zd xm (Z HB) A);simp only[markC] at g0 g1 g2 g3 g4 g5 g6 g7;have qY:=Q g7;have K:=ofInt_order ((kk:Int)+1+1+1+1+1+1);have qF:(FloatKind.f64.format.order (floatOfInt .f64 ((kk:Int)+1+1+1+1+1+1)) (floatOfInt .f64 ((kk:Int)+1+1+1+1+1+1)) != some Ordering.eq)=false:=by rw[K];rfl
   have uq:(m:Int)<len:=by omega
   have oP:Hid (b<wr.heap.size):=yJ A (Z HB).size;clear xm K A;go_wp2_with fail
   go_region_with (go_at_call 24;refine(markText_at _ (kk+7) _ (by omega) (by omega) (by omega)).mono ?_;rintro e W2 ⟨rfl,xE⟩;have c7:=(xE.cell (p:=(U b (off+m*8+7))) (Z oP)).trans (Z qY);have xq:=Q ((Z HB).drew.trans (xE.mono (Z HB).drew.size));clear xE)
   all_goals go_wp2_with fail
   all_goals
    exact⟨⟨m+1,kk+8,by omega,by go_num,congrArg (H) (by omega),by have:=Z ar;show kk+8 = _;omega,Z xq⟩,by simp[intOf];omega⟩
  ·go_wp2_with fail;go_ret;obtain rfl:m=len:=by omega
   have h:=Z ar;subst h;exact⟨rfl,Z HB⟩
theorem exL_len (l:List Int):(exL l).length<=200:=by
 have:=judJ_len l;unfold exL;split
 ·simp
 ·split
  ·omega
  ·simp
theorem ownT_blk {B:Nat}{w:World}{v:Value}{l:List Int}(h:OwnT B w v l):∃g,v.ownBlock=some g/\g<w.heap.size:=by
 obtain⟨g,cap,xr,t,rfl,_,M,_⟩:=h;exact⟨g,rfl,(yY.1 M).1⟩
theorem ownR_off {B g:Nat}{w:World}{v:Value}{l:List Cm}(h:OwnR Cm.vs 8 B w v l)(M:g<B):l ≠ []->v.ownBlock≠some g:=by
 obtain⟨a,cap,rfl,_,h⟩:=h;intro xy e;obtain⟨g',rfl,hB,_⟩:=h xy;simp only[Value.ownBlock,Option.some.injEq] at e;omega
theorem exactExt (v:Value)(l:List Int)(w:World)(hr:Rd w v l)(A:Bts l)(hl:l.length<=1048576)(hE:ErrT w) :
  Calls Tryz.prog 5 #[v] w fun e w'=>e=ym (.bool true)/\yn w w':=by
 have HR:=Q hr;have HE:=Q hE;have HB:=Q A;obtain⟨a,cap,rfl⟩:=eb hr;clear hr hE A;have kQ:(l.length:Int)<=1048576:=by omega
 have HS:=Q (fun v w h E=>specExtract_any v l w h E (Z HB));have HI:=Q (fun v w h E h3=>implExtract_any v l w h E (Z HB) h3);have uB:=exL_len l;have HT:=Q (fun W (h:yn w W)=>gT (.slice a l.length cap) l W (zN (Z HR) (B:=w.heap.size) h ya));generalize exL l=L at HS HI uB;generalize exC l=co at HS HI;clear HB HR;go_enter Tryz.func5,Tryz.ntmps5;go_wp2_with fail;refine(Z HT _ (Below.refl _ _)).mono ?_;rintro e w1 ⟨v1,rfl,jQ,xR⟩;have kw:=Q (Z HS v1 w1 (eI jQ.own) (fL jQ));have B1:=Q xR;clear jQ xR HS;go_wp2_with fail;refine(Z kw).mono ?_;rintro e w2 ⟨u1,rfl,jf,xE⟩;have HU:=Q (ik (gh (f:=Cm.vs) (fun c=>rfl) (by omega) jf));have xq:=Q (lW (Z B1) xE);clear jf xE kw B1;have HQ:=Q (fun u W (h:OwnR Cm.vs 8 w2.heap.size W u L) (hc:yn w2 W)=>eqCmdS_same u u1 L W (ik h) (zq (Z HU) hc ya));clear HU;go_wp2_with fail;refine(Z HT _ (Z xq)).mono ?_;rintro e w3 ⟨v2,rfl,pI,xN⟩;have HII:=Q (Z HI v2 w3 (eI pI.own) (fL pI) (zY (Z HE) (lW (Z xq) xN) ya));obtain⟨g2,uZ,uW⟩:=ownT_blk pI;have O3:=Q pI.own;have C3:=Q xN;clear pI xN;go_wp2_with fail;refine(Z HII).mono ?_;rintro e w4 ⟨u2,rfl,cE,xz⟩;have U4:=Q (gh (f:=Cm.vs) (fun c=>rfl) (by omega) cE);have V4:=Q (gd (Z O3) xz ya);have C4:=Q (lW (Z C3) xz);have ja:=(Z C3).size;clear cE xz HII O3 C3
 have HU2:Hid (∀W,OwnR Cm.vs 8 w3.heap.size W u2 L->OwnR Cm.vs 8 w2.heap.size W u2 L):=fun W h=>by
  obtain⟨a,cap,e,D,E⟩:=h;exact⟨a,cap,e,D,fun xy=>by obtain⟨g,h3,h4,h5⟩:=E xy;exact⟨g,h3,by omega,h5⟩⟩
 go_wp2_with fail;refine(Z HQ u2 w4 (Z HU2 _ (Z U4)) (Z C4)).mono ?_;rintro e w5 ⟨rfl,xX⟩;have U5:=Q (fX (Z U4) xX ya);have V5:=Q (gd (Z V4) xX ya);have C5:=Q (lW (Z C4) xX);clear xX U4 V4 C4;go_wp2_with fail;refine(Z HT _ ((Z xq).trans ((Z C5).mono (Z xq).size))).mono ?_;rintro e w6 ⟨v3,rfl,ho6,vN⟩;have U6:=Q (fX (Z U5) vN ya);have V6:=Q (gd (Z V5) vN ya);have C6:=Q (lW (Z C5) vN);have pk:=Q (lC v2 v3 l w6 (eI (Z V6)) (eI ho6.own));clear ho6 vN U5 V5 C5;go_wp2_with fail;refine(Z pk).mono ?_;rintro e w7 ⟨rfl,n7,rfl⟩;have hd:yn w6 (w6.drewN n7):=zp (Below.refl _ _) n7;have U7:=Q (fX (Z U6) hd ya);have V7:=Q (gd (Z V6) hd ya);have C7:=Q (lW (Z C6) hd);clear hd pk U6 V6 C6;generalize w6.drewN n7=W7 at U7 V7 C7 |-;have kE:=Q (mark_own v2 l W7 (Z V7));go_wp2_with fail;refine(Z kE).mono ?_;rintro e w8 ⟨rfl,hv8,g8,hg8,hB8,hgr8⟩;obtain rfl:g2=g8:=Option.some.inj (uZ.symm.trans hg8);have U8:=Q (ownR_grown (Z U7) hgr8 (ownR_off (Z U7) uW));have C8:=Q ((Z C7).trans (fZ hgr8 (fun g e=>by cases e;exact hB8) (Z C7).size));have hn8:¬ ((1:Int)+l.length<0):=by omega
 clear hv8 hgr8 hg8 kE U7 V7 C7;go_wp2_with fail;refine(Z HQ u2 w8 (Z HU2 _ (Z U8)) (Z C8)).mono ?_;rintro e w9 ⟨rfl,jk⟩;have U9:=Q (fX (Z U8) jk ya);have C9:=Q (lW (Z C8) jk);clear jk U8 C8;have HM:=Q (markC_own u2 L w9 (Z U9) (by omega));obtain⟨mk,hmk⟩:∃mk:Nat,mk=1+8*L.length:=⟨_,rfl⟩;rw[<- hmk] at HM;have HMK:=Q hmk;have hn0:¬ ((mk:Int)<0):=by omega
 clear hmk;go_wp2_with fail;refine(Z HM).mono ?_;rintro e w10 ⟨rfl,ho10,G,hg10,hG⟩;have U10:=Q ho10;have C10:Hid (yn w2 w10):=(Z C9).trans (fZ hg10 (fun k X=>yN ja (hG k X).2.1) (Z C9).size);have HH:=Q (heldCmdS_any u2 L.length 1 w10 (by omega) (by omega) (by omega) (ik ho10));rw[<- Z HMK] at HH;clear ho10 hg10 hG HM U9 C9;go_wp2_with fail;refine(Z HH).mono ?_;rintro e w11 ⟨rfl,hb11⟩;have U11:=Q (fX (Z U10) hb11 ya);have C11:=Q (lW (Z C10) hb11);clear hb11 U10 C10 HH;go_wp2_with fail;refine(Z HT _ ((Z xq).trans ((Z C11).mono (Z xq).size))).mono ?_;rintro e w12 ⟨v4,rfl,ho12,vy⟩;have U12:=Q (fX (Z U11) vy ya);have C12:=Q (lW (Z C11) vy);have HI2:=Q (Z HI v4 w12 (eI ho12.own) (fL ho12) (zY (Z HE) ((Z xq).trans ((Z C12).mono (Z xq).size)) ya));clear ho12 vy U11 C11 HT HI HE;go_wp2_with fail;refine(Z HI2).mono ?_;rintro e w13 ⟨u3,rfl,ho13,hb13⟩;have U13:=Q (fX (Z U12) hb13 ya);have C13:=Q (lW (Z C12) hb13)
 have X13:Hid (OwnR Cm.vs 8 w2.heap.size w13 u3 L):=by
  obtain⟨a,cap,e,D,E⟩:=gh (f:=Cm.vs) (fun c=>rfl) (by omega) ho13;have:=(Z C12).size;exact⟨a,cap,e,D,fun xy=>by obtain⟨g,h3,h4,h5⟩:=E xy;exact⟨g,h3,by omega,h5⟩⟩
 clear ho13 hb13 U12 C12 HI2;go_wp2_with fail;refine(Z HQ u3 w13 (Z X13) (Z C13)).mono ?_;rintro e w14 ⟨rfl,hb14⟩;have U14:=fX (Z U13) hb14 ya;have C14:=Q (lW (Z C13) hb14);have HH:=Q (heldCmdS_any u2 L.length 1 w14 (by omega) (by omega) (by omega) (ik U14));rw[<- Z HMK] at HH;clear hb14 U14 U13 C13 X13;go_wp2_with fail;refine(Z HH).mono ?_;rintro e w15 ⟨rfl,hb15⟩;have C15:=Q (lW (Z C14) hb15);have D15:=Q ((Z xq).trans ((Z C15).mono (Z xq).size));clear hb15;go_wp2_with fail;go_ret;exact⟨rfl,Z D15⟩
theorem lawExt (a:Option Addr)(len cap:Nat)(zs:List Int)(w:World)
  (h:(a=none/\len=0/\cap=0/\zs = []) \/ ∃x,a=some x/\len<=cap/\cap<=maxLen/\zs.length=cap/\(∀i,i<zs.length->w.cell? (x.add i)=some (.int .u8 (zs.getD i 0)))/\∀n∈zs,(Lit.int .u8 n).wf=true) (hE:ErrT w) :
  Calls Tryz.prog 5 #[.slice a len cap] w fun e w'=>e=ym (.bool true)/\yn w w':=by
 by_cases hl:len<=1048576
 ·obtain⟨D,E,h3⟩:=rd_of_row h (by omega);exact exactExt _ _ w E h3 (by omega) hE
 ·have kQ:(1048576:Int)<len:=by omega
  clear h hE;go_enter Tryz.func5,Tryz.ntmps5;go_wp2_with fail;go_ret;exact⟨rfl,Below.refl _ _⟩
end Go.Proofs.YtbghmldggahjiaaGreatDoor
