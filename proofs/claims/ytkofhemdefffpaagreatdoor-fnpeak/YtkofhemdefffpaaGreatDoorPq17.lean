/-.-/
import Derived.Test.YtkofhemdefffpaaGreatDoorPq10
import Derived.Test.YtkofhemdefffpaaGreatDoorPq16
set_option linter.unusedVariables false
set_option maxHeartbeats 6400000
set_option maxRecDepth 100000
namespace Go.Proofs.YtkofhemdefffpaaGreatDoor
open Go.RowKit
def spN (next:Int)(l:List Od)(c:Cm):Int:=if okS next l=true then stN next l c else 0
def spL (next:Int)(l:List Od)(c:Cm):List Od:=if okS next l=true then stL next l c else[]
def spE (next:Int)(l:List Od)(c:Cm):List Ev:=if okS next l=true then stE next l c else[]
theorem box3 (w:World)(bl cl rl:List Value)(T1 T2 T3:TypeId):(((w.alloc (Obj.cells bl.toArray T1)).alloc (Obj.cells cl.toArray T2)).alloc (Obj.cells rl.toArray T3)).heap.size=w.heap.size+3/\World.rangeAt (((w.alloc (Obj.cells bl.toArray T1)).alloc (Obj.cells cl.toArray T2)).alloc (Obj.cells rl.toArray T3)) w.heap.size 0 bl/\World.rangeAt (((w.alloc (Obj.cells bl.toArray T1)).alloc (Obj.cells cl.toArray T2)).alloc (Obj.cells rl.toArray T3)) (w.heap.size+1) 0 cl/\World.rangeAt (((w.alloc (Obj.cells bl.toArray T1)).alloc (Obj.cells cl.toArray T2)).alloc (Obj.cells rl.toArray T3)) (w.heap.size+1+1) 0 rl/\World.there (((w.alloc (Obj.cells bl.toArray T1)).alloc (Obj.cells cl.toArray T2)).alloc (Obj.cells rl.toArray T3)) (w.heap.size+1+1) 0 rl.length/\yp w (((w.alloc (Obj.cells bl.toArray T1)).alloc (Obj.cells cl.toArray T2)).alloc (Obj.cells rl.toArray T3)):=by
 have xG:=zi w (Obj.cells bl.toArray T1);have ug:((w.alloc (Obj.cells bl.toArray T1)).alloc (Obj.cells cl.toArray T2)).heap.size=w.heap.size+1+1:=by rw[zi,xG]
 have r1:=zm w bl T1;have r2:=zm (w.alloc (Obj.cells bl.toArray T1)) cl T2;have r3:=zm ((w.alloc (Obj.cells bl.toArray T1)).alloc (Obj.cells cl.toArray T2)) rl T3;have t3:=zM ((w.alloc (Obj.cells bl.toArray T1)).alloc (Obj.cells cl.toArray T2)) rl T3;have b1:=mc w (Obj.cells bl.toArray T1);have b2:Below (w.alloc (Obj.cells bl.toArray T1)).heap.size (w.alloc (Obj.cells bl.toArray T1)) ((w.alloc (Obj.cells bl.toArray T1)).alloc (Obj.cells cl.toArray T2)):=mc _ _;have b3:Below ((w.alloc (Obj.cells bl.toArray T1)).alloc (Obj.cells cl.toArray T2)).heap.size ((w.alloc (Obj.cells bl.toArray T1)).alloc (Obj.cells cl.toArray T2)) (((w.alloc (Obj.cells bl.toArray T1)).alloc (Obj.cells cl.toArray T2)).alloc (Obj.cells rl.toArray T3)):=mc _ _;rw[xG] at r2;rw[ug] at r3 t3;refine⟨by rw[zi,ug],zf (zf r1 b2 (by omega)) b3 (by omega),zf r2 b3 (by omega),r3,t3,b1.trans ((mf b2 b3).mono b1.size)⟩
theorem there_blk {W W':World}{b o n:Nat}(h:W.there b o n)(K:W'.heap[b]? = W.heap[b]?):W'.there b o n:=fun j hj=>by
 rw[yR (a:=(Y b (o+j))) K,World.frozen?_of_block (a:=(Y b (o+j))) K];exact h j hj
structure Inv (next:Int) (l:List Od):Prop where
 good:GoodL l
 side:∀o∈l,o.side=1\/o.side=2
 ids:∀o∈l,o.id<next
theorem inv_start:Inv 1 []:=⟨⟨by simp,by simp,List.Pairwise.nil⟩,by simp,by simp⟩
theorem hit_ids {l:List Od}{k:Nat}{o:Od}{q:Int}(E:l[k]? = some o){b:Int}(h:∀x∈l,x.id<b):∀x∈db l k o q,x.id<b:=by
 intro x hx;rw[db] at hx;split at hx
 ·rcases List.mem_append.1 hx with Z|Z
  ·exact h x (List.mem_of_mem_take Z)
  ·exact h x (List.mem_of_mem_drop Z)
 ·rcases List.mem_or_eq_of_mem_set hx with Z|rfl
  ·exact h x Z
  ·exact h o (yP E)
theorem matL_ids {c:Cm}{id b:Int}:∀(n:Nat) (l:List Od) (left:Int) (ts:List Ev),dQ l->GoodL l->0<=left->left<=1000000->(∀x∈l,x.id<b)->∀x∈(matL c id n l left ts).1,x.id<b:=by
 intro n
 induction n with
 | zero=>intro l left ts _ _ _ _ h x hx;exact h x hx
 | succ n ih =>
  intro l left ts hr F h0 Z h x hx;rw[matL] at hx;split at hx
  ·next xK =>
   split at hx
   ·exact h x hx
   ·next o hf =>
    split at hx
    ·obtain⟨un,_⟩:=fL hf;obtain⟨k,E⟩:=List.getElem?_of_mem un;have hp:=fd hr E;have jY:(plc l o.id).toNat=k:=by rw[hp];rfl
     rw[jY] at hx;have D:=F.left o un;have hgh:=eT F E (qty:=min left o.left) (by omega) (by omega);exact ih _ _ _ hgh.1.rise hgh.1 (by omega) (by omega) (hit_ids E h) x hx
    ·exact h x hx
  ·exact h x hx
theorem inv_step {next:Int}{l:List Od}(c:Cm)(h:Inv next l)(h0:0<=next)(Z:next<=1000000):Inv (stN next l c) (stL next l c)/\next<=stN next l c/\stN next l c<=next+1:=by
 rw[stN,stL]
 by_cases hr:refR next l c=0
 ·rw[if_pos hr]
  by_cases E:c.k=1
  ·rw[if_pos ⟨hr,E⟩,if_pos E];refine⟨?_,by omega,by omega⟩;have hq:=iL hr E;have hn:=ref_new hr E;have F:=fY (c:=c) (id:=next) 21 l c.q [] h.good (by omega) hq.2;have hs:=matL_side (c:=c) (id:=next) 21 l c.q [] h.good.rise h.good (by omega) hq.2 h.side;have hi:=matL_ids (c:=c) (id:=next) (b:=next) 21 l c.q [] h.good.rise h.good (by omega) hq.2 h.ids;rw[newR] at hn;split at hn
   ·cases hn
   rename_i uF;split at hn
   ·cases hn
   split at hn
   ·cases hn
   split at hn
   ·cases hn
   split at hn
   ·cases hn
   split at hn
   ·cases hn
   have uF:c.s=1\/c.s=2:=side_of (by simpa using uF);generalize matL c next 21 l c.q []=hg at F hs hi hn |-;rw[accL];split
   ·next kn =>
    rw[matR] at hn;split at hn
    ·cases hn
    split at hn
    ·cases hn
    split at hn
    ·cases hn
    rw[if_pos ⟨kn.2,kn.1⟩] at hn;split at hn
    ·cases hn
    rename_i hfu
    have xC:(hg.1 ++ [{ ordO c next with left:=hg.2.1 }]).length<=20:=by
     rcases Nat.lt_or_ge 20 (hg.1 ++ [{ ordO c next with left:=hg.2.1 }]).length with hh|hh
     ·exact absurd (show eA (hg.1 ++ [{ ordO c next with left:=hg.2.1 }])=true by rw[eA];exact if_pos hh) (by simpa using hfu)
     ·exact hh
    refine⟨⟨by simpa using xC,?_,?_⟩,?_,?_⟩
    ·intro o D;rcases List.mem_append.1 D with D|D
     ·exact F.1.left o D
     ·simp at D;subst D;exact⟨kn.1,F.2.2⟩
    ·refine List.pairwise_append.2 ⟨F.1.rise,List.pairwise_singleton _ _,fun a ha b K=>?_⟩;simp at K;subst K;exact hi a ha
    ·intro o D;rcases List.mem_append.1 D with D|D
     ·exact hs o D
     ·simp at D;subst D;exact uF
    ·intro o D;rcases List.mem_append.1 D with D|D
     ·have:=hi o D;omega
     ·simp at D;subst D;show next<next+1;omega
   ·exact⟨F.1,hs,fun o D=>by have:=hi o D;omega⟩
  ·rw[if_neg (fun e=>E e.2),if_neg E];refine⟨?_,by omega,by omega⟩
   by_cases hk2:c.k=2
   ·rw[if_pos hk2];obtain⟨k,o,hp,D⟩:=ref_id hr (.inl hk2);have jY:(plc l c.i).toNat=k:=by rw[hp];rfl
    simp only[jY,D];have K:=h.good.left o (yP D);exact⟨(eT h.good D (qty:=o.left) (by omega) (by omega)).1,hit_side D h.side,hit_ids D h.ids⟩
   ·rw[if_neg hk2]
    by_cases bW:c.k=3
    ·rw[if_pos bW];obtain⟨k,o,hp,D⟩:=ref_id hr (.inr bW);have jY:(plc l c.i).toNat=k:=by rw[hp];rfl
     simp only[jY,D]
     have hq:1<=c.q/\c.q<=1000000/\c.q<o.left:=by
      rw[refR,if_neg E,if_neg hk2,if_pos bW] at hr;split at hr
      ·rw[redR] at hr;split at hr
       ·next K =>
        rw[hp] at hr;simp only[Int.toNat_natCast,D] at hr;split at hr
        ·cases hr
        ·split at hr
         ·cases hr
         ·have:1<=c.q/\c.q<=1000000:=by simpa[betB] using K
          omega
       ·cases hr
      ·cases hr
     have un:∀x∈l.set k { o with left:=c.q },∃y∈l,x.id=y.id/\x.side=y.side/\(x.left=y.left\/x.left=c.q):=by
      intro x hx;rcases List.mem_or_eq_of_mem_set hx with Z|rfl
      ·exact⟨x,Z,rfl,rfl,.inl rfl⟩
      ·exact⟨o,yP D,rfl,rfl,.inr rfl⟩
     refine⟨⟨by simpa using h.good.len,?_,?_⟩,?_,?_⟩
     ·intro x hx;obtain⟨y,hy,_,_,I⟩:=un x hx;have:=h.good.left y hy;rcases I with I|I <;> omega
     ·have km:=h.good.rise;rw[dQ,List.pairwise_iff_getElem] at km |-;intro i j hi hj pd;have qR:i<l.length:=by simpa using hi
      have pO:j<l.length:=by simpa using hj
      have bi:∀i (hi:i<(l.set k { o with left:=c.q }).length),((l.set k { o with left:=c.q })[i]).id=(l[i]'(by simpa using hi)).id:=by
       intro i hi;rw[List.getElem_set];split
       ·next e=>subst e;have:=yH.1 D;obtain⟨_,rfl⟩:=this;rfl
       ·rfl
      rw[bi i hi,bi j hj];exact km i j qR pO pd
     ·intro x hx;obtain⟨y,hy,_,Q,_⟩:=un x hx;rw[Q];exact h.side y hy
     ·intro x hx;obtain⟨y,hy,Q,_,_⟩:=un x hx;rw[Q];exact h.ids y hy
    ·rw[if_neg bW];have hsub:∀x∈l.filter ndy,x∈l:=fun x hx=>(List.mem_filter.1 hx).1;exact⟨⟨yO (List.length_filter_le _ _) h.good.len,fun o D=>h.good.left o (hsub o D),List.Pairwise.filter _ h.good.rise⟩,fun o D=>h.side o (hsub o D),fun o D=>h.ids o (hsub o D)⟩
 ·rw[if_neg (fun e=>hr e.1),if_neg hr];exact⟨h,by omega,by omega⟩
def cntO (t:Tot)(o:Od):Tot:={ t with li:=wrap64 (t.li+1),le:=wrap64 (t.le+o.left) }
def wbT (t:Tot)(l:List Od):Tot:=l.foldl cntO t
theorem wb_step (t:Tot)(l:List Od){k:Nat}{o:Od}(h:l[k]? = some o):wbT t (l.take (k+1))=cntO (wbT t (l.take k)) o:=by
 unfold wbT;rw[List.take_add_one,h,List.foldl_append];rfl
theorem keepB {w W:World}{S:Nat}{cs:List Value}(h:W.rangeAt S 0 cs/\W.there S 0 8/\W.there (S+1+1) 0 8/\Below S w W/\S+1+1+1<=W.heap.size)(j:Nat)(hj:j<cs.length)(u:Value):(W.setCell (Y S j) u).rangeAt S 0 (cs.set j u)/\(W.setCell (Y S j) u).there S 0 8/\(W.setCell (Y S j) u).there (S+1+1) 0 8/\Below S w (W.setCell (Y S j) u)/\S+1+1+1<=(W.setCell (Y S j) u).heap.size:=
 ⟨gN h.1 hj,zU h.2.1,zU h.2.2.1,h.2.2.2.1.setCell (p:=(Y S j)) yb _,by simp only[World.setCell,Array.size_modify];exact h.2.2.2.2⟩
theorem withBook_any (t:Tot)(next:Int)(v:Value)(l:List Od)(w:World)(hr:RdR Od.vs 6 w v l) :
  Calls Tryz.prog 76 #[.agg #[H t.gr,H t.ac,H t.rf,H t.tr,H t.vo,H t.no,H t.li,H t.le],.agg #[H next,v]] w fun r w'=>r=yn (.agg #[H (wbT t l).gr,H (wbT t l).ac,H (wbT t l).rf,H (wbT t l).tr,H (wbT t l).vo,H (wbT t l).no,H (wbT t l).li,H (wbT t l).le])/\yp w w':=by
 obtain⟨a,cap,rfl,xC,hc⟩:=hr
 have xp:∀(k:Nat) (c:Od),l[k]? = some c->∃b off,a=some (Y b off)/\b<w.heap.size/\w.rangeAt b (off+k*6) c.vs:=by
  intro k c E;obtain⟨b,off,Z,Q,I⟩:=hc (by intro h;rw[h] at E;simp at E);exact⟨b,off,Z,Q,I k c E⟩
 have HC:=U xp;clear xp hc;have hsf:=sfl;have xG:=zi w (me #[H t.gr,H t.ac,H t.rf,H t.tr,H t.vo,H t.no,H t.li,H t.le] 44);have ug:((w.alloc (me #[H t.gr,H t.ac,H t.rf,H t.tr,H t.vo,H t.no,H t.li,H t.le] 44)).alloc (me #[H next,.slice a l.length cap] 31)).heap.size=w.heap.size+1+1:=by rw[zi,xG]
 have qv:(((w.alloc (me #[H t.gr,H t.ac,H t.rf,H t.tr,H t.vo,H t.no,H t.li,H t.le] 44)).alloc (me #[H next,.slice a l.length cap] 31)).alloc (me #[H 0,H 0,H 0,H 0,H 0,H 0,H 0,H 0] 44)).heap.size=w.heap.size+1+1+1:=by rw[zi,ug]
 have r1:=zm w [H t.gr,H t.ac,H t.rf,H t.tr,H t.vo,H t.no,H t.li,H t.le] 44;have t1:=zM w [H t.gr,H t.ac,H t.rf,H t.tr,H t.vo,H t.no,H t.li,H t.le] 44;have r2:=zm (w.alloc (me #[H t.gr,H t.ac,H t.rf,H t.tr,H t.vo,H t.no,H t.li,H t.le] 44)) [H next,.slice a l.length cap] 31;have t3:=zM ((w.alloc (me #[H t.gr,H t.ac,H t.rf,H t.tr,H t.vo,H t.no,H t.li,H t.le] 44)).alloc (me #[H next,.slice a l.length cap] 31)) [H 0,H 0,H 0,H 0,H 0,H 0,H 0,H 0] 44;rw[ug] at t3;rw[xG] at r2;have b1:=mc w (me #[H t.gr,H t.ac,H t.rf,H t.tr,H t.vo,H t.no,H t.li,H t.le] 44);have b2:Below (w.heap.size+1) (w.alloc (me #[H t.gr,H t.ac,H t.rf,H t.tr,H t.vo,H t.no,H t.li,H t.le] 44)) ((w.alloc (me #[H t.gr,H t.ac,H t.rf,H t.tr,H t.vo,H t.no,H t.li,H t.le] 44)).alloc (me #[H next,.slice a l.length cap] 31)):=(Below.refl _ _).alloc (by omega) _;have b3:Below (w.heap.size+1+1) ((w.alloc (me #[H t.gr,H t.ac,H t.rf,H t.tr,H t.vo,H t.no,H t.li,H t.le] 44)).alloc (me #[H next,.slice a l.length cap] 31)) (((w.alloc (me #[H t.gr,H t.ac,H t.rf,H t.tr,H t.vo,H t.no,H t.li,H t.le] 44)).alloc (me #[H next,.slice a l.length cap] 31)).alloc (me #[H 0,H 0,H 0,H 0,H 0,H 0,H 0,H 0] 44)):=(Below.refl _ _).alloc (by omega) _;have HX:Hid (_/\_/\_/\_/\_):=⟨zf (zf r1 b2 (by omega)) b3 (by omega),zk (zk t1 b2 (by omega)) b3 (by omega),t3,(b1.trans (b2.mono (by omega))).trans (b3.mono (by omega)),Nat.le_of_eq qv.symm⟩;have HBK:=U (zf r2 b3 (by omega));clear xG ug qv r1 r2 t1 t3 b1 b2 b3;go_enter Tryz.func76,Tryz.ntmps76;refine mg fun hb xw=>?_;go_wp2_with fail;refine O xw _ _ ?_;clear xw;generalize (((w.alloc (me #[H t.gr,H t.ac,H t.rf,H t.tr,H t.vo,H t.no,H t.li,H t.le] 44)).alloc (me #[H next,.slice a l.length cap] 31)).alloc (me #[H 0,H 0,H 0,H 0,H 0,H 0,H 0,H 0] 44))=xh at HX HBK |-;have HX:Hid ((xh).rangeAt w.heap.size 0 (wbT t (l.take 0)).vs/\(xh).there w.heap.size 0 8/\(xh).there (w.heap.size+1+1) 0 8/\yp w (xh)/\w.heap.size+1+1+1<=(xh).heap.size):=O HX;have c0:xh.cell? (Y (w.heap.size+1) 0)=some (H next):=O HBK 0 _ rfl;have c1:xh.cell? (Y (w.heap.size+1) 1)=some (.slice a l.length cap):=O HBK 1 _ rfl;go_wp2_with fail;clear c0 c1;go_loopw [10] (fun iv wr=>∃(k:Nat),k<=l.length/\iv=H k/\Hid ((wr).rangeAt w.heap.size 0 (wbT t (l.take k)).vs/\(wr).there w.heap.size 0 8/\(wr).there (w.heap.size+1+1) 0 8/\yp w (wr)/\w.heap.size+1+1+1<=(wr).heap.size)) (fun iv _=>l.length-(intOf iv).toNat)
 case atStart=>exact⟨0,Nat.zero_le _,rfl,O HX⟩
 case round =>
  obtain⟨k,E,rfl,ue⟩:=hrel
  by_cases xK:k<l.length
  ·obtain⟨e,oB⟩:∃e,l[k]? = some e:=⟨_,yI xK⟩;obtain⟨b,off,rfl,K,xo⟩:=O HC k e oB;have uM:=U (wb_step t l oB);have ux:(k:Int)<l.length:=by omega
   have hse:=(O ue).2.2.2.2;obtain⟨g0,g1,g2,g3,g4,g5⟩:=zL (zf xo (O ue).2.2.2.1 K);have jk:=mc wr (me (yx e.id e.side e.ticks e.left e.life e.tag).toArray 71);have HY:Hid (((wr.alloc (me (yx e.id e.side e.ticks e.left e.life e.tag).toArray 71))).rangeAt w.heap.size 0 (wbT t (l.take k)).vs/\((wr.alloc (me (yx e.id e.side e.ticks e.left e.life e.tag).toArray 71))).there w.heap.size 0 8/\((wr.alloc (me (yx e.id e.side e.ticks e.left e.life e.tag).toArray 71))).there (w.heap.size+1+1) 0 8/\yp w ((wr.alloc (me (yx e.id e.side e.ticks e.left e.life e.tag).toArray 71)))/\w.heap.size+1+1+1<=((wr.alloc (me (yx e.id e.side e.ticks e.left e.life e.tag).toArray 71))).heap.size):=⟨zf (O ue).1 jk (by omega),zk (O ue).2.1 jk (by omega),zk (O ue).2.2.1 jk (by omega),(O ue).2.2.2.1.trans (jk.mono (by omega)),yO hse jk.size⟩;generalize wbT t (l.take k)=T at uM HY;obtain⟨uS,uR,uU,uV,uW,uT,uD,vk⟩:=T;have xE:w.heap.size≠wr.heap.size:=by omega
   have hne':wr.heap.size≠w.heap.size:=by omega
   have d6:(wr.alloc (me (yx e.id e.side e.ticks e.left e.life e.tag).toArray 71)).cell? (yr w 6)=some (H uD):=(O HY).1 6 _ rfl;have p6:(wr.alloc (me (yx e.id e.side e.ticks e.left e.life e.tag).toArray 71)).frozen? (yr w 6)=false:=by have:=((O HY).2.1 6 (by omega)).2;rwa[Nat.zero_add] at this
   have d7:(wr.alloc (me (yx e.id e.side e.ticks e.left e.life e.tag).toArray 71)).cell? (yr w 7)=some (H vk):=(O HY).1 7 _ rfl;have p7:(wr.alloc (me (yx e.id e.side e.ticks e.left e.life e.tag).toArray 71)).frozen? (yr w 7)=false:=by have:=((O HY).2.1 7 (by omega)).2;rwa[Nat.zero_add] at this
   clear oB xo K jk;have HN:Hid (wbT t (l.take (k+1))=⟨uS,uR,uU,uV,uW,uT,wrap64 (uD+1),wrap64 (vk+e.left)⟩):=O uM;clear uM;go_wp2_with fail;go_roundw
   case rel=>exact⟨k+1,by omega,by go_num,by rw[O HN];exact keepB (keepB (O HY) 6 (by simp[Tot.vs]) _) 7 (by simp[Tot.vs]) _⟩
   case measure=>simp[intOf];omega
  ·have ux:¬ (k:Int)<l.length:=by omega
   rw[xa (by omega)] at ue;generalize hT:wbT t l=T at ue;have pK:=U hT;have HY:=U (O ue);clear hT;obtain⟨uS,uR,uU,uV,uW,uT,uD,vk⟩:=T;have c0:wr.cell? (yr w 0)=some (H uS):=(O HY).1 0 _ rfl;obtain⟨y0,z0,q0⟩:=zh (O HY).2.2.1 (j:=0) (by omega);have c1:wr.cell? (yr w 1)=some (H uR):=(O HY).1 1 _ rfl;obtain⟨y1,z1,q1⟩:=zh (O HY).2.2.1 (j:=1) (by omega);have c2:wr.cell? (yr w 2)=some (H uU):=(O HY).1 2 _ rfl;obtain⟨y2,z2,q2⟩:=zh (O HY).2.2.1 (j:=2) (by omega);have c3:wr.cell? (yr w 3)=some (H uV):=(O HY).1 3 _ rfl;obtain⟨y3,z3,q3⟩:=zh (O HY).2.2.1 (j:=3) (by omega);have c4:wr.cell? (yr w 4)=some (H uW):=(O HY).1 4 _ rfl;obtain⟨y4,z4,q4⟩:=zh (O HY).2.2.1 (j:=4) (by omega);have c5:wr.cell? (yr w 5)=some (H uT):=(O HY).1 5 _ rfl;obtain⟨y5,z5,q5⟩:=zh (O HY).2.2.1 (j:=5) (by omega);have c6:wr.cell? (yr w 6)=some (H uD):=(O HY).1 6 _ rfl;obtain⟨y6,z6,q6⟩:=zh (O HY).2.2.1 (j:=6) (by omega);have c7:wr.cell? (yr w 7)=some (H vk):=(O HY).1 7 _ rfl;obtain⟨y7,z7,q7⟩:=zh (O HY).2.2.1 (j:=7) (by omega);have vI:=U (yY wr (w.heap.size+1+1) 0 [H uS,H uR,H uU,H uV,H uW,H uT,H uD,H vk] (fun j hj=>(O HY).2.2.1 j hj));have oP:=U (zj (w.heap.size+1+1) (by omega) [H uS,H uR,H uU,H uV,H uW,H uT,H uD,H vk] 0 wr (O HY).2.2.2.1);clear ue;go_wp2_with fail;change bodyPost _ _ _ _ _ (wr.setCells (w.heap.size+1+1) 0 [H uS,H uR,H uU,H uV,H uW,H uT,H uD,H vk]);generalize wr.setCells (w.heap.size+1+1) 0 [H uS,H uR,H uU,H uV,H uW,H uT,H uD,H vk]=WE at vI oP |-;obtain⟨d0,d1,d2,d3,d4,d5,d6,d7⟩:=yE (O vI)
   try simp only[Exit.inBlock,Exit.then]
   refine bodyPost_ret (by simp[results,Tryz.results76,go_sem,d0,d1,d2,d3,d4,d5,d6,d7];try rfl) rfl ?_;exact⟨by rw[O pK],O oP⟩
structure RunSt where
 n:Int
 l:List Od
 g:List (List Ev)
 t:Tot
def tot0:Tot:=⟨0,0,0,0,0,0,0,0⟩
def rstep (s:RunSt)(c:Cm):RunSt:=⟨stN s.n s.l c,stL s.n s.l c,s.g ++ [stE s.n s.l c],wgT s.t (stE s.n s.l c)⟩
def runS (cs:List Cm):RunSt:=cs.foldl rstep ⟨1,[],[],tot0⟩
theorem ig (cs:List Cm){k:Nat}{c:Cm}(h:cs[k]? = some c):runS (cs.take (k+1))=rstep (runS (cs.take k)) c:=by
 unfold runS;rw[List.take_add_one,h,List.foldl_append];rfl
theorem run_take (cs:List Cm)(h:cs.length<=200):∀k,k<=cs.length->Inv (runS (cs.take k)).n (runS (cs.take k)).l/\1<=(runS (cs.take k)).n/\(runS (cs.take k)).n<=1+k/\(runS (cs.take k)).g.length=k:=by
 intro k
 induction k with
 | zero=>intro _;exact⟨inv_start,by simp[runS],by simp[runS],by simp[runS]⟩
 | succ k ih =>
  intro E;obtain⟨Z,Q,I,h4⟩:=ih (by omega);obtain⟨c,hc⟩:∃c,cs[k]? = some c:=⟨_,yI (by omega)⟩;rw[ig cs hc];generalize runS (cs.take k)=s at Z Q I h4 |-;obtain⟨i1,i2,i3⟩:=inv_step c Z (by omega) (by omega);refine⟨i1,?_,?_,?_⟩
  ·show 1<=stN s.n s.l c;omega
  ·show stN s.n s.l c<=1+((k+1:Nat):Int);omega
  ·show(s.g ++ [stE s.n s.l c]).length=k+1;simp[h4]
theorem iu (cs:List Cm)(h:cs.length<=200):Inv (runS cs).n (runS cs).l/\1<=(runS cs).n/\(runS cs).n<=1+cs.length/\(runS cs).g.length=cs.length:=by
 have:=run_take cs h cs.length yb;rwa[xa yb] at this
def rsF (cs:List Cm):RunSt:=if cs.length<=200 then { runS cs with t:=wbT (runS cs).t (runS cs).l } else⟨0,[],[],tot0⟩
end Go.Proofs.YtkofhemdefffpaaGreatDoor
