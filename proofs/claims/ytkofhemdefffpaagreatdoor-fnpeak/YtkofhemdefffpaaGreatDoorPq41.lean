/-.-/
import Derived.Test.YtkofhemdefffpaaGreatDoorPq30
import Derived.Test.YtkofhemdefffpaaGreatDoorPq40
set_option linter.unusedVariables false
set_option maxHeartbeats 6400000
set_option maxRecDepth 100000
namespace Go.Proofs.YtkofhemdefffpaaGreatDoor
open Go.RowKit
theorem allR_of {next:Int}:∀(l:List Od) (last:Int),(∀o∈l,ordB o=true/\last<o.id/\o.id<next)->dQ l->allR next last l=true
 | [],_,_,_=>rfl
 | a::r,last,h,hr=>by
  obtain⟨Z,Q,I⟩:=h a (by simp);obtain⟨p1,p2⟩:=List.pairwise_cons.1 hr;rw[allR,Z,decide_eq_true Q,decide_eq_true I,allR_of r a.id (fun o D=>⟨(h o (by simp[D])).1,p1 o D,(h o (by simp[D])).2.2⟩) p2];rfl


def endR (g:Gr):Int:=if g.bg=0\/(dueG g).kind≠0 then 15 else 0
theorem fieldDu (dk di dt dq dp:Int)(W:World):Sem.run Tryz.prog (Instr.field 167 (.agg #[H dk,H di,H dt,H dq,H dp]) 0) W = .ok (H dk) W:=by kernel_rfl
theorem endRule_any {G B r:Nat}{vq:Value}{g:Gr}(w:World)(h:GS G B r w vq g)(hi:GI g):Calls Tryz.prog 80 #[h3 G 0] w fun e w'=>e=yn (H (endR g))/\yp w w':=by
 have hfd:=fieldDu;have HD:=U (due_any w h hi);have HR:Hid (endR g=if g.bg=0\/(dueG g).kind≠0 then 15 else 0):=rfl
 have c3:=J h.box 3 rfl;generalize endR g=er at HR |-;generalize dueG g=d at HD HR;obtain⟨dk,di,dt,dq,dp⟩:=d;unfold duV at HD;simp only at HD HR;clear h hi
 by_cases K:g.bg=0
 ·have HQ:=U (O HR);rw[if_pos (.inl K)] at HQ;rw[K] at c3;go_enter Tryz.func80,Tryz.ntmps80;go_wp2_with fail;go_ret;exact⟨by rw[O HQ];rfl,Below.refl _ _⟩
 ·have b0:(g.bg==0)=false:=by simpa using K
  by_cases E:dk=0
  ·have HQ:=U (O HR);rw[if_neg (fun h=>h.elim K (fun h=>h E))] at HQ;have b1:(dk != 0)=false:=by simpa using E
   clear E K;go_enter Tryz.func80,Tryz.ntmps80;go_wp2_with fail;refine(O HD).mono ?_;rintro e w2 ⟨rfl,xy⟩;have HB:=U xy;clear xy;go_wp2_with fail;go_ret;exact⟨by rw[O HQ];rfl,O HB⟩
  ·have HQ:=U (O HR);rw[if_pos (.inr E)] at HQ;have b1:(dk != 0)=true:=by simpa using E
   clear E K;go_enter Tryz.func80,Tryz.ntmps80;go_wp2_with fail;refine(O HD).mono ?_;rintro e w2 ⟨rfl,xy⟩;have HB:=U xy;clear xy;go_wp2_with fail;go_ret;exact⟨by rw[O HQ];rfl,O HB⟩
structure OkB (n:Int) (l:List Od):Prop where
 n1:1<=n
 n2:n<=1000000
 len:l.length<=20
 ord:∀o∈l,ordB o=true
 rise:dQ l
 id0:∀o∈l,0<o.id
 ids:∀o∈l,o.id<n
 lev:nlev l<=8
 nox:∀a∈l,a.side=1->∀b∈l,b.side=2->a.ticks<b.ticks
theorem okB_ok {n:Int}{l:List Od}(h:OkB n l):okS n l=true:=by
 have Z:=allR_of l 0 (fun o D=>⟨h.ord o D,h.id0 o D,h.ids o D⟩) h.rise (next:=n);have Q:=(noX_iff l).2 h.nox;have I:betB n 1 1000000=true:=by have:=h.n1;have:=h.n2;simp[betB];omega
 rw[okS,Z,Q,I,decide_eq_true h.len,decide_eq_true h.lev];rfl
theorem okB_tags {n:Int}{l:List Od}(h:OkB n l):∀o∈l,o.tag.size<=maxLen:=fun o D=>by
 have:=h.ord o D;simp only[ordB,tagB,xf,xg] at this;have Z:=this.1.1.2.1;unfold maxLen;omega
theorem okB_start:OkB 1 []:=⟨by omega,by omega,by simp,by simp,List.Pairwise.nil,by simp,by simp,by simp[nlev,nlevR],by simp⟩
theorem ord_side {o:Od}(h:ordB o=true):o.side=1\/o.side=2:=by
 simp[ordB,betB] at h;omega
theorem gP {o:Od}(h:ordB o=true):0<o.left/\o.left<=1000000:=by
 simp[ordB,betB] at h;omega
theorem gC {n:Int}{l:List Od}(h:OkB n l):GoodL l:=⟨h.len,fun o D=>gP (h.ord o D),h.rise⟩
theorem ord_set {o:Od}(h:ordB o=true){q:Int}(Z:0<q)(Q:q<=1000000):ordB { o with left:=q } = true:=by
 simp only[ordB,xf] at h |-;exact⟨h.1,by simp[betB];omega⟩
theorem nodup_len:∀ {md B:List Int},md.Nodup->(∀x∈md,x∈B)->md.length<=B.length
 | [],B,_,_=>by simp
 | a::md,B,h,hs=>by
  obtain⟨Z,Q⟩:=List.nodup_cons.1 h;have ha:=hs a (by simp);have:=nodup_len (B:=B.erase a) Q (fun x hx=>(List.mem_erase_of_ne (show x≠a from fun e=>Z (e ▸ hx))).2 (hs x (by simp[hx])));rw[List.length_erase_of_mem ha] at this;have:=List.length_pos_of_mem ha;simp;omega
theorem isT_nodup {s:Bool}{seq:List Od}{T:List Int}(h:IsT s seq T):T.Nodup:=h.sorted.imp (fun {a b} hab e=>by subst e;exact gu _ _ hab)
theorem nlev_sub {l l':List Od}(hs:∀o∈l,o.side=1\/o.side=2)(h:∀x∈l',∃o∈l,o.side=x.side/\o.ticks=x.ticks):nlev l'<=nlev l:=by
 have hs':∀o∈l',o.side=1\/o.side=2:=fun x hx=>by obtain⟨o,Z,Q,_⟩:=h x hx;rw[<- Q];exact hs o Z
 rw[nlev_eq hs (eG true _) (eG false _),nlev_eq hs' (eG true _) (eG false _)]
 have e:∀(s:Bool) (sd:Int),(tks s (zC l' sd)).length<=(tks s (zC l sd)).length:=fun s sd=>by
  refine nodup_len (isT_nodup (eG s _)) (fun k E=>?_);obtain⟨x,hx,rfl⟩:=((eG s (zC l' sd)).mem k).1 E;obtain⟨hx1,pI⟩:=List.mem_filter.1 hx;obtain⟨o,Z,Q,I⟩:=h x hx1;exact((eG s (zC l sd)).mem _).2 ⟨o,List.mem_filter.2 ⟨Z,by simpa[Q] using pI⟩,I⟩
 have:=e true 1;have:=e false 2;omega
theorem okB_less {n:Int}{l l':List Od}(h:OkB n l)(hl:l'.length<=20)(hr:dQ l')(hm:∀x∈l',∃o∈l,∃q,0<q/\q<=1000000/\x = { o with left:=q }):OkB n l':=by
 have hm':∀x∈l',∃o∈l,o.side=x.side/\o.ticks=x.ticks:=fun x hx=>by obtain⟨o,Z,q,_,_,rfl⟩:=hm x hx;exact⟨o,Z,rfl,rfl⟩
 refine⟨h.n1,h.n2,hl,fun x hx=>?_,hr,fun x hx=>?_,fun x hx=>?_,yO (nlev_sub (fun o D=>ord_side (h.ord o D)) hm') h.lev,fun a ha Z b K Q=>?_⟩
 ·obtain⟨o,Z,q,Q,I,rfl⟩:=hm x hx;exact ord_set (h.ord o Z) Q I
 ·obtain⟨o,Z,q,Q,I,rfl⟩:=hm x hx;exact h.id0 o Z
 ·obtain⟨o,Z,q,Q,I,rfl⟩:=hm x hx;exact h.ids o Z
 ·obtain⟨o,k1,k2,k3⟩:=hm' a ha;obtain⟨p,m1,m2,m3⟩:=hm' b K;have:=h.nox o k1 (k2.trans Z) p m1 (m2.trans Q);omega
theorem okB_hit {n:Int}{l:List Od}(h:OkB n l){k:Nat}{o:Od}(E:l[k]? = some o){q:Int}(h0:0<=q)(Z:q<=o.left):OkB n (db l k o q):=by
 have F:=(eT (gC h) E h0 Z).1;have D:=yP E;have bY:=gP (h.ord o D);refine okB_less h F.len F.rise (fun x hx=>?_);rw[db] at hx;split at hx
 ·have hx':x∈l:=by
   rcases List.mem_append.1 hx with Q|Q
   ·exact List.mem_of_mem_take Q
   ·exact List.mem_of_mem_drop Q
  have:=gP (h.ord x hx');exact⟨x,hx',x.left,this.1,this.2,rfl⟩
 ·next xE =>
  rcases List.mem_or_eq_of_mem_set hx with Q|rfl
  ·have:=gP (h.ord x Q);exact⟨x,Q,x.left,this.1,this.2,rfl⟩
  ·exact⟨o,D,o.left-q,by omega,by omega,rfl⟩
theorem okB_mat {n:Int}{c:Cm}{id:Int}:∀(k:Nat) (l:List Od) (left:Int) (ts:List Ev),OkB n l->0<=left->left<=1000000->OkB n (matL c id k l left ts).1
 | 0,l,left,ts,h,h0,Z=>h
 | k+1,l,left,ts,h,h0,Z=>by
  rw[matL]
  by_cases hl:0<left
  ·rw[if_pos hl];cases hf:dv l (othS c.s) with
   | none=>exact h
   | some o =>
    simp only
    by_cases hm:dL c o=true
    ·rw[if_pos hm];obtain⟨un,_⟩:=fL hf;obtain⟨i,hi⟩:=List.getElem?_of_mem un;have D:=gP (h.ord o un);rw[fd h.rise hi,Int.toNat_natCast];exact okB_mat k _ _ _ (okB_hit h hi (by omega) (by omega)) (by omega) (by omega)
    ·rw[if_neg hm];exact h
  ·rw[if_neg hl];exact h
theorem mat_stop {c:Cm}{id:Int}:∀(k:Nat) (l:List Od) (left:Int) (ts:List Ev),GoodL l->0<=left->left<=1000000->l.length<k->0<(matL c id k l left ts).2.1->∀o,dv (matL c id k l left ts).1 (othS c.s)=some o->dL c o=false
 | 0,l,left,ts,h,h0,Z,E=>by omega
 | k+1,l,left,ts,h,h0,Z,E=>by
  rw[matL]
  by_cases hl:0<left
  ·rw[if_pos hl];cases hf:dv l (othS c.s) with
   | none=>intro _ o D;simp only at D;rw[hf] at D;cases D
   | some p =>
    simp only
    by_cases hm:dL c p=true
    ·rw[if_pos hm];obtain⟨un,_⟩:=fL hf;obtain⟨i,hi⟩:=List.getElem?_of_mem un;have D:=h.left p un;rw[fd h.rise hi,Int.toNat_natCast];obtain⟨g1,g2⟩:=eT h hi (qty:=min left p.left) (by omega) (by omega);rcases g2 with g2|⟨g2,g3⟩
     ·exact mat_stop k _ _ _ g1 (by omega) (by omega) (by omega)
     ·intro jL;exfalso;have:left-min left p.left=0:=by omega
      rw[this,matL_end (by omega)] at jL;simp at jL
    ·rw[if_neg hm];intro _ o D;simp only at D;rw[hf] at D;cases D;simpa using hm
  ·rw[if_neg hl];intro jL;exact absurd jL hl
theorem far_meet {c:Cm}{l:List Od}(hr:dQ l)(ht:c.t≠2)(hs:c.s=1\/c.s=2)(h:∀o,dv l (othS c.s)=some o->dL c o=false):∀o∈l,o.side=othS c.s->(c.s=1->tk c.p<o.ticks)/\(c.s=2->o.ticks<tk c.p):=by
 intro x hx uF;rcases front_head (s:=decide (othS c.s=1)) hr (sd:=othS c.s) with⟨_,Z⟩|⟨i,o,Z,Q⟩
 ·exact absurd uF (Z x hx)
 ·have hm:=h o Z;obtain⟨j,hj⟩:=List.getElem?_of_mem hx;rw[dL,if_neg ht] at hm
  have K:x=o\/ahd (decide (othS c.s=1)) o x:=by
   by_cases hji:j=i
   ·subst hji;rw[Q.1] at hj;exact .inl (Option.some.inj hj).symm
   ·exact .inr (Q.2.2 j x hj uF hji)
  rcases hs with hs|hs
  ·refine⟨fun _=>?_,fun e=>by omega⟩;rw[if_pos hs] at hm;have hm':¬ o.ticks<=tk c.p:=by simpa using hm
   have D:othS c.s=2:=by simp[othS,hs]
   rw[D] at K;rcases K with rfl|K
   ·omega
   ·rcases K with K|K
    ·simp only[bt] at K;simp at K;omega
    ·omega
  ·refine⟨fun e=>by omega,fun _=>?_⟩;rw[if_neg (by omega)] at hm;have hm':¬ tk c.p<=o.ticks:=by simpa using hm
   have D:othS c.s=1:=by simp[othS,hs]
   rw[D] at K;rcases K with rfl|K
   ·omega
   ·rcases K with K|K
    ·simp only[bt] at K;simp at K;omega
    ·omega
theorem okB_add {n:Int}{l:List Od}{o:Od}(h:OkB n l)(hn:n≠1000000)(hi:o.id=n)(D:ordB o=true)(hf:eA (l ++ [o])=false)(hx:∀x∈l,x.side≠o.side->(o.side=1->o.ticks<x.ticks)/\(o.side=2->x.ticks<o.ticks)):OkB (n+1) (l ++ [o]):=by
 have hn1:=h.n1;have hn2:=h.n2
 have uF:∀x∈l ++ [o],x.side=1\/x.side=2:=fun x hx=>by
  rcases List.mem_append.1 hx with Z|Z
  ·exact ord_side (h.ord x Z)
  ·rw[List.mem_singleton.1 Z];exact ord_side D
 rw[full_eq h.len uF,fullS] at hf;simp only[Bool.or_eq_false_iff,decide_eq_false_iff_not] at hf;have hl:=h.len
 have bi:∀x∈l ++ [o],x∈l\/x=o:=fun x hx=>by
  rcases List.mem_append.1 hx with Z|Z
  ·exact .inl Z
  ·exact .inr (List.mem_singleton.1 Z)
 refine⟨by omega,by omega,by simp;omega,fun x hx=>?_,?_,fun x hx=>?_,fun x hx=>?_,by omega,fun a ha Z b K Q=>?_⟩
 ·rcases bi x hx with Z|rfl
  ·exact h.ord x Z
  ·exact D
 ·refine List.pairwise_append.2 ⟨h.rise,List.pairwise_singleton _ _,fun a ha b K=>?_⟩;rw[List.mem_singleton.1 K,hi];exact h.ids a ha
 ·rcases bi x hx with Z|rfl
  ·exact h.id0 x Z
  ·omega
 ·rcases bi x hx with Z|rfl
  ·have:=h.ids x Z;omega
  ·omega
 ·rcases bi a ha with k1|rfl
  ·rcases bi b K with k2|rfl
   ·exact h.nox a k1 Z b k2 Q
   ·exact(hx a k1 (by omega)).2 Q
  ·rcases bi b K with k2|rfl
   ·exact(hx b k2 (by omega)).1 Z
   ·omega
theorem okB_step {n:Int}{l:List Od}{c:Cm}(h:OkB n l)(hp:PrW c.p):OkB (stN n l c) (stL n l c):=by
 rw[stN,stL]
 by_cases h0:refR n l c=0
 ·rw[if_pos h0]
  by_cases E:c.k=1
  ·rw[if_pos ⟨h0,E⟩,if_pos E];rw[refR,if_pos E] at h0;split at h0
   ·rw[newR] at h0
    have e:betB c.s 1 2=true/\betB c.t 1 5=true/\lifW c=false/\prcB c=true/\betB c.q 1 1000000=true/\tagB c.g=true/\matR n c (matL c n 21 l c.q [])=0:=by
     revert h0;cases Z:betB c.s 1 2
     ·intro h;cases h
     cases Q:betB c.t 1 5
     ·intro h;cases h
     cases I:lifW c
     ·cases h4:prcB c
      ·intro h;cases h
      cases h5:betB c.q 1 1000000
      ·intro h;cases h
      cases h6:tagB c.g
      ·intro h;cases h
      intro h;exact⟨rfl,rfl,rfl,rfl,rfl,rfl,h⟩
     ·intro h;cases h
    obtain⟨Z,Q,I,h4,h5,h6,h7⟩:=e;have hq:1<=c.q/\c.q<=1000000:=by simpa[betB] using h5
    have hm:=okB_mat (c:=c) (id:=n) 21 l c.q [] h (by omega) hq.2;have qm:=mat_stop (c:=c) (id:=n) 21 l c.q [] (gC h) (by omega) hq.2 (by have:=h.len;omega);obtain⟨-,g1,g2⟩:=fY (c:=c) (id:=n) 21 l c.q [] (gC h) (by omega) hq.2;generalize matL c n 21 l c.q []=hg at h7 hm qm g1 g2 |-;rw[matR] at h7
    have hn:n≠1000000:=fun e=>by
     by_cases a1:c.t=5/\0<hg.2.2.length
     ·rw[if_pos a1] at h7;cases h7
     ·rw[if_neg a1] at h7
      by_cases a2:c.t=4/\0<hg.2.1
      ·rw[if_pos a2] at h7;cases h7
      ·rw[if_neg a2,if_pos e] at h7;cases h7
    have hn2:=h.n2;rw[accL]
    by_cases hr:0<hg.2.1/\dj c.t=true
    ·rw[if_pos hr]
     have hf:eA (hg.1 ++ [⟨n,c.s,tk c.p,hg.2.1,c.l,c.g⟩])=false:=by
      cases cS:eA (hg.1 ++ [⟨n,c.s,tk c.p,hg.2.1,c.l,c.g⟩])
      ·rfl
      ·exfalso;have hff':eA (hg.1 ++ [{ ordO c n with left:=hg.2.1 }])=true:=cS;revert h7;split
       ·intro h;cases h
       split
       ·intro h;cases h
       rw[if_pos ⟨hr.2,hr.1⟩];intro h;cases h
     have ht:c.t=1\/c.t=5:=by simpa[dj] using hr.2
     have hs:c.s=1\/c.s=2:=by simp[betB] at Z;omega
     have hpk:tkOk c.p=true:=by rw[prcB,if_neg (by omega)] at h4;exact h4
     obtain⟨p1,p2⟩:=hp hpk
     have hl:betB c.l 0 1=true:=by
      rw[lifW] at I;cases K:betB c.l 0 1
      ·rw[K] at I;simp at I
      ·rfl
     have hfar:=far_meet (c:=c) hm.rise (by omega) hs (qm hr.1);refine okB_add hm hn rfl ?_ hf (fun x hx xE=>?_)
     ·simp only[ordB,Z,hl,h6,Bool.true_and,Bool.and_true,xf];simp[betB];omega
     ·have hxs:=ord_side (hm.ord x hx);have hne':x.side≠c.s:=xE;have D:x.side=othS c.s:=by rw[othS];split <;> omega
      exact hfar x hx D
    ·rw[if_neg hr];exact⟨by have:=hm.n1;omega,by omega,hm.len,hm.ord,hm.rise,hm.id0,fun o D=>by have:=hm.ids o D;omega,hm.lev,hm.nox⟩
   ·cases h0
  ·rw[if_neg (fun e=>E e.2),if_neg E]
   by_cases Q:c.k=2
   ·rw[if_pos Q];cases D:l[(plc l c.i).toNat]? with
    | none=>exact h
    | some o =>
     have:=gP (h.ord o (yP D));exact okB_hit h D (by omega) (Int.le_refl _)
   ·rw[if_neg Q]
    by_cases I:c.k=3
    ·rw[if_pos I];cases D:l[(plc l c.i).toNat]? with
     | none=>exact h
     | some o =>
      rw[refR,if_neg E,if_neg Q,if_pos I] at h0
      have hq:betB c.q 1 1000000=true:=by
       split at h0
       ·rw[redR] at h0;cases K:betB c.q 1 1000000
        ·rw[K] at h0;cases h0
        ·rfl
       ·cases h0
      have hq':1<=c.q/\c.q<=1000000:=by simpa[betB] using hq
      have hom:=yP D;refine okB_less h (by simp;exact h.len) ?_ (fun x hx=>?_)
      ·have hmap:(l.set (plc l c.i).toNat { o with left:=c.q }).map Od.id=l.map Od.id:=by
        rw[List.map_set];show(l.map Od.id).set _ o.id = _;apply List.ext_getElem?;intro j
        by_cases hj:(plc l c.i).toNat=j
        ·subst hj;rw[List.getElem?_set_self (by simp;exact(yH.1 D).1),List.getElem?_map,D];rfl
        ·rw[yX hj]
       have hr:=h.rise;rw[dQ,<- List.pairwise_map (f:=Od.id) (R:=fun a b=>a<b)] at hr |-;rw[hmap];exact hr
      ·rcases List.mem_or_eq_of_mem_set hx with h4|rfl
       ·have:=gP (h.ord x h4);exact⟨x,h4,x.left,this.1,this.2,rfl⟩
       ·exact⟨o,hom,c.q,by omega,hq'.2,rfl⟩
    ·rw[if_neg I];refine okB_less h (yO (List.length_filter_le _ _) h.len) (h.rise.filter _) (fun x hx=>?_);have hx':=(List.mem_filter.1 hx).1;have:=gP (h.ord x hx');exact⟨x,hx',x.left,this.1,this.2,rfl⟩
 ·rw[if_neg h0,if_neg (fun e=>h0 e.1)];exact h
theorem okB_run (cs:List Cm)(hp:∀c∈cs,PrW c.p):∀k,k<=cs.length->OkB (runS (cs.take k)).n (runS (cs.take k)).l:=by
 intro k
 induction k with
 | zero=>intro _;exact okB_start
 | succ k ih =>
  intro E;obtain⟨c,hc⟩:∃c,cs[k]? = some c:=⟨_,yI (by omega)⟩;rw[ig cs hc];exact okB_step (ih (by omega)) (hp c (yP hc))
def DueIs (d:Du)(e:Ev):Prop:=d.kind=e.kind/\d.id=e.id/\d.other=e.other/\d.qty=e.qty/\d.price=e.price
def Gov:Gr->List Ev->Int->List Od->Prop
 | g,[],N,L=>g.bg≠0/\(dueG g).kind=0/\g.nx=N/\g.l=L
 | g,e::r,N,L=>okE e=true/\zK g e=0/\(g.bg≠0->DueIs (dueG g) e)/\Gov (dG g e) r N L
theorem beg_some {g:Gr}{e:Ev}(h:okE e=true):(dG g e).bg≠0:=by
 have E:=fh h;have K:begG g e≠0:=by unfold begG;split <;> omega
 unfold dG
 repeat' split
 all_goals exact K
theorem ok_tr (a b c d:Int):okE (trE a b c d)=true:=by
 simp[okE,trE,fldK,eE,dw,fT,zCm,List.range_succ,gz]
 try decide +kernel
theorem ok_left (k:Int)(E:k=4\/k=5\/k=6\/k=7\/k=9)(a b:Int):okE ⟨k,zCm,a,0,b,0,0⟩=true:=by
 rcases E with rfl|rfl|rfl|rfl|rfl <;> (simp[okE,fldK,eE,dw,fT,zCm,List.range_succ,gz];try decide +kernel)
theorem ok_day (b:Int):okE ⟨8,zCm,0,0,b,0,0⟩=true:=by
 simp[okE,fldK,eE,dw,fT,zCm,List.range_succ,gz]
 try decide +kernel
theorem ok_ref (c:Cm)(r:Int)(h:c.g.size<=13):okE ⟨2,c,0,0,0,0,r⟩=true:=by
 simp[okE,fldK,eE,dw,h,List.range_succ]
 try decide +kernel
theorem ok_acc (s t l q:Int)(p:Nat)(g:ByteArray)(n:Int)(h:g.size<=13):okE ⟨1,⟨1,s,t,l,q,0,p,g⟩,n,0,0,0,0⟩=true:=by
 simp[okE,fldK,eE,dw,h,List.range_succ]
 try decide +kernel
def grT (nx:Int)(l:List Od)(c:Cm)(id left:Int):Gr:=⟨nx,l,1,c,{ ordO c id with left:=left }⟩
theorem due_T (nx:Int)(l:List Od)(c:Cm)(id left:Int):dueG (grT nx l c id left)=takD l c { ordO c id with left:=left }:=by
 unfold dueG;rw[if_pos (by rfl)];rfl
theorem gov_mat {c:Cm}{id nx N:Int}{L:List Od}:∀(k:Nat) (l:List Od) (left:Int) (ts:List Ev),GoodL l->0<=left->left<=1000000 ->
  ∃us,(matL c id k l left ts).2.2=ts++us/\∀tl,Gov (grT nx (matL c id k l left ts).1 c id (matL c id k l left ts).2.1) tl N L->Gov (grT nx l c id left) (us++tl) N L
 | 0,l,left,ts,h,h0,Z=>⟨[],by simp[matL],fun tl h=>h⟩
 | k+1,l,left,ts,h,h0,Z=>by
  rw[matL]
  by_cases hl:0<left
  ·rw[if_pos hl];cases hf:dv l (othS c.s) with
   | none=>exact⟨[],by simp,fun tl h=>h⟩
   | some o =>
    simp only
    by_cases hm:dL c o=true
    ·rw[if_pos hm];obtain⟨un,_⟩:=fL hf;obtain⟨i,hi⟩:=List.getElem?_of_mem un;have D:=h.left o un;have uO:=fd h.rise hi;rw[uO,Int.toNat_natCast];obtain⟨us,e1,e2⟩:=gov_mat (c:=c) (id:=id) (nx:=nx) (N:=N) (L:=L) k (db l i o (min left o.left)) (left-min left o.left) (ts ++ [trE id o.id (min left o.left) o.ticks]) (eT h hi (by omega) (by omega)).1 (by omega) (by omega);refine⟨trE id o.id (min left o.left) o.ticks::us,by rw[e1];simp,fun tl ht=>?_⟩;have h4:=e2 tl ht;rw[List.cons_append]
     have hd:dueG (grT nx l c id left)=⟨3,id,o.id,min left o.left,o.ticks⟩:=by
      rw[due_T,takD,if_neg (by show ¬ left=0;omega),hf];simp only[hm,if_true];rfl
     refine⟨ok_tr _ _ _ _,?_,fun _=>?_,?_⟩
     ·unfold zK;rw[if_neg (by show ¬ (3:Int)=1;decide),if_neg (by show ¬ (3:Int)=2;decide),if_neg (by show ¬ (3:Int)=6;decide),if_neg (by show ¬ (3:Int)=7;decide),if_neg (by show ¬ (3:Int)=8;decide)]
      have jm:dueR (grT nx l c id left) (trE id o.id (min left o.left) o.ticks)=0:=by
       unfold dueR;rw[hd,if_neg (by show ¬ (1:Int)=0;decide),if_neg (by show ¬ (3:Int)=0;decide),if_neg (by rintro⟨h5|h5,-⟩ <;> exact absurd (show(3:Int)=9 from h5) (by decide))]
      rw[jm,if_neg (by decide),if_pos (by rfl),hd];simp[trR,trE]
     ·rw[hd];exact⟨rfl,rfl,rfl,rfl,rfl⟩
     ·rw[step3 (by rfl)];have e3:hitI l o.id (min left o.left)=db l i o (min left o.left):=gE uO hi;show Gov ⟨nx,hitI l o.id (min left o.left),1,c,{ ordO c id with left:=left-min left o.left }⟩ (us++tl) N L;rw[e3];exact h4
    ·rw[if_neg hm];exact⟨[],by simp,fun tl h=>h⟩
  ·rw[if_neg hl];exact⟨[],by simp,fun tl h=>h⟩
theorem day_same:isDy=dyB:=rfl
theorem gov_day {n:Int}:∀(m:Nat) (l:List Od),dQ l->(l.filter dyB).length=m->Gov ⟨n,l,8,zCm,zOd⟩ ((l.filter dyB).map expE) n (l.filter ndy)
 | 0,l,hr,hm=>by
  have he:l.filter dyB = []:=List.length_eq_zero_iff.1 hm;rw[he];refine⟨by show(8:Int)≠0;decide,?_,rfl,?_⟩
  ·unfold dueG;rw[if_neg (by show ¬ (8:Int)=1;decide),if_pos (by rfl)];show(dayD l).kind=0
   have hf:l.find? isDy=none:=by
    rw[List.find?_eq_none];intro x hx hd;have:x∈l.filter dyB:=List.mem_filter.2 ⟨hx,hd⟩;rw[he] at this;cases this
   unfold dayD;rw[hf];rfl
  ·show l=l.filter ndy;refine(List.filter_eq_self.2 fun x hx=>?_).symm;cases hd:ndy x
   ·exfalso;have:x∈l.filter dyB:=List.mem_filter.2 ⟨hx,by simp only[ndy,Bool.not_eq_false'] at hd;exact hd⟩;rw[he] at this;cases this
   ·rfl
 | m+1,l,hr,hm=>by
  have hf:∃o,l.find? isDy=some o:=by
   cases h:l.find? isDy with
   | some o=>exact⟨o,rfl⟩
   | none =>
    exfalso;rw[List.find?_eq_none] at h;have:l.filter dyB = []:=List.filter_eq_nil_iff.2 h;rw[this] at hm;cases hm
  obtain⟨o,hf⟩:=hf;obtain⟨hd,xs,ys,rfl,qZ⟩:=List.find?_eq_some_iff_append.1 hf;have hno':∀a∈xs,dyB a=false:=fun a ha=>by show isDy a=false;simpa using qZ a ha
  have ea:xs.filter dyB = []:=List.filter_eq_nil_iff.2 fun a ha=>by rw[hno' a ha];decide
  have e1:(xs++o::ys).filter dyB=o::ys.filter dyB:=by
   rw[List.filter_append,ea,List.nil_append,List.filter_cons_of_pos (show dyB o=true from hd)]
  have hdn:ndy o=false:=by show(!dyB o)=false;have:dyB o=true:=hd;rw[this];rfl
  have e2:(xs++o::ys).filter ndy=(xs++ys).filter ndy:=by
   rw[List.filter_append,List.filter_append,List.filter_cons_of_neg (by rw[hdn];decide)]
  have e3:(xs++ys).filter dyB=ys.filter dyB:=by rw[List.filter_append,ea,List.nil_append]
  have E:(xs++o::ys)[xs.length]? = some o:=by simp
  have uO:=fd hr E;have pF:dQ (xs++ys):=List.Pairwise.sublist (List.Sublist.append (List.Sublist.refl xs) (List.sublist_cons_self o ys)) hr;have ih:=gov_day (n:=n) m (xs++ys) pF (by rw[e3];rw[e1] at hm;simpa using hm);rw[e3] at ih
  have hdue:dueG ⟨n,xs++o::ys,8,zCm,zOd⟩=⟨9,o.id,0,o.left,0⟩:=by
   unfold dueG;rw[if_neg (by show ¬ (8:Int)=1;decide),if_pos (by rfl)];show dayD (xs++o::ys) = _;unfold dayD;rw[hf]
  have hhit:hitI (xs++o::ys) o.id o.left=xs++ys:=by
   rw[gE uO E,db,if_pos rfl];simp
  rw[e1,e2,List.map_cons];refine⟨ok_left 9 (.inr (.inr (.inr (.inr rfl)))) _ _,?_,fun _=>?_,?_⟩
  ·unfold zK;rw[if_neg (by show ¬ (9:Int)=1;decide),if_neg (by show ¬ (9:Int)=2;decide),if_neg (by show ¬ (9:Int)=6;decide),if_neg (by show ¬ (9:Int)=7;decide),if_neg (by show ¬ (9:Int)=8;decide)]
   have jm:dueR ⟨n,xs++o::ys,8,zCm,zOd⟩ (expE o)=0:=by
    unfold dueR;rw[hdue];simp[dW,expE]
   rw[jm,if_neg (by decide),if_neg (by show ¬ (9:Int)=3;decide),if_pos (by rfl)]
  ·rw[hdue];exact⟨rfl,rfl,rfl,rfl,rfl⟩
  ·rw[step9 (by rfl),hdue];show Gov ⟨n,hitI (xs++o::ys) o.id o.left,8,zCm,zOd⟩ _ n _;rw[hhit];exact ih
theorem iJ {n:Int}{l:List Od}{c:Cm}(F:GoodL l):Gov (gr0 n l) (stE n l c) (stN n l c) (stL n l c):=by
 rw[stE,stN,stL]
 by_cases h0:refR n l c=0
 ·rw[if_pos h0,if_pos h0]
  by_cases E:c.k=1
  ·rw[if_pos E,if_pos E,if_pos ⟨h0,E⟩];have hq:=iL h0 E;have hf:=form1 h0 E;have hn:=ref_new h0 E
   have aJ:c.g.size<=13:=by
    rcases Nat.lt_or_ge 13 c.g.size with hgt|uJ
    ·exfalso;rw[refR_long (by omega),if_pos E] at h0;revert h0
     repeat' split
     all_goals (intro h;cases h)
    ·exact uJ
   obtain⟨us,e1,e2⟩:=gov_mat (c:=c) (id:=n) (nx:=n+1) (N:=n+1) (L:=accL c n (matL c n 21 l c.q [])) 21 l c.q [] F (by omega) hq.2;obtain⟨g1,g2,g3⟩:=fY (c:=c) (id:=n) 21 l c.q [] F (by omega) hq.2;have qm:=mat_stop (c:=c) (id:=n) 21 l c.q [] F (by omega) hq.2 (by have:=F.len;omega);generalize matL c n 21 l c.q []=hg at e1 e2 g1 g2 g3 qm |-;rw[accE,e1,List.nil_append,List.cons_append];refine⟨ok_acc _ _ _ _ _ _ _ aJ,?_,fun K=>absurd (show(gr0 n l).bg=0 from rfl) K,?_⟩
   ·unfold zK
    have hs:df (gr0 n l) ⟨1,⟨1,c.s,c.t,c.l,c.q,0,c.p,c.g⟩,n,0,0,0,0⟩=0:=by
     have ht:da ⟨1,⟨1,c.s,c.t,c.l,c.q,0,c.p,c.g⟩,n,0,0,0,0⟩=c:=by unfold da;rw[if_pos (by rfl)];exact hf.symm
     unfold df;rw[if_neg (by show ¬ (0:Int)≠0;decide),ht];show(if refR n l c≠0 then(5:Int) else 0)=0
     rw[h0];rfl
    rw[if_pos (by rfl),hs,if_neg (by decide)];exact if_pos rfl
   ·rw[step1 (by rfl)]
    have ec:(⟨n+1,l,begG (gr0 n l) ⟨1,⟨1,c.s,c.t,c.l,c.q,0,c.p,c.g⟩,n,0,0,0,0⟩,⟨1,c.s,c.t,c.l,c.q,0,c.p,c.g⟩,ordO ⟨1,c.s,c.t,c.l,c.q,0,c.p,c.g⟩ n⟩:Gr)=grT (n+1) l c n c.q:=by
     rw[<- hf];rfl
    show Gov (⟨n+1,l,begG (gr0 n l) ⟨1,⟨1,c.s,c.t,c.l,c.q,0,c.p,c.g⟩,n,0,0,0,0⟩,⟨1,c.s,c.t,c.l,c.q,0,c.p,c.g⟩,ordO ⟨1,c.s,c.t,c.l,c.q,0,c.p,c.g⟩ n⟩:Gr) _ _ _;rw[ec];refine e2 _ ?_
    by_cases hl:0<hg.2.1
    ·rw[if_pos hl]
     have hd:dueG (grT (n+1) hg.1 c n hg.2.1)=lftD c { ordO c n with left:=hg.2.1 }:=by
      rw[due_T,takD,if_neg (by show ¬ hg.2.1=0;omega)];cases hf2:dv hg.1 (othS c.s) with
      | none=>rfl
      | some o=>simp only;rw[if_neg (by rw[qm hl o hf2];decide)]
     by_cases hr:dj c.t=true
     ·rw[if_pos hr];rw[lftD,if_pos hr] at hd;refine⟨ok_left 4 (.inl rfl) _ _,?_,fun _=>?_,?_⟩
      ·unfold zK;rw[if_neg (by show ¬ (4:Int)=1;decide),if_neg (by show ¬ (4:Int)=2;decide),if_neg (by show ¬ (4:Int)=6;decide),if_neg (by show ¬ (4:Int)=7;decide),if_neg (by show ¬ (4:Int)=8;decide)]
       have jm:dueR (grT (n+1) hg.1 c n hg.2.1) ⟨4,zCm,n,0,hg.2.1,0,0⟩=0:=by
        unfold dueR;rw[hd,if_neg (by show ¬ (1:Int)=0;decide),if_neg (by show ¬ (4:Int)=0;decide),if_neg (by rintro⟨h5|h5,-⟩ <;> exact absurd (show(4:Int)=9 from h5) (by decide))]
       rw[jm,if_neg (by decide),if_neg (by show ¬ (4:Int)=3;decide),if_neg (by show ¬ (4:Int)=9;decide),hd];simp[dW,ordO]
      ·rw[hd];exact⟨rfl,rfl,rfl,rfl,rfl⟩
      ·rw[step4 (by rfl)];refine⟨by show(1:Int)≠0;decide,?_,rfl,?_⟩
       ·unfold dueG;rw[if_pos (by rfl)];show(takD _ _ _).kind=0;rw[takD,if_pos (by rfl)];rfl
       ·show hg.1 ++ [_]=accL c n hg;rw[accL,if_pos ⟨hl,hr⟩];rfl
     ·rw[if_neg hr];rw[lftD,if_neg hr] at hd;refine⟨ok_left 5 (.inr (.inl rfl)) _ _,?_,fun _=>?_,?_⟩
      ·unfold zK;rw[if_neg (by show ¬ (5:Int)=1;decide),if_neg (by show ¬ (5:Int)=2;decide),if_neg (by show ¬ (5:Int)=6;decide),if_neg (by show ¬ (5:Int)=7;decide),if_neg (by show ¬ (5:Int)=8;decide)]
       have jm:dueR (grT (n+1) hg.1 c n hg.2.1) ⟨5,zCm,n,0,hg.2.1,0,0⟩=0:=by
        unfold dueR;rw[hd,if_neg (by show ¬ (1:Int)=0;decide),if_neg (by show ¬ (5:Int)=0;decide),if_neg (by rintro⟨h5|h5,-⟩ <;> exact absurd (show(5:Int)=9 from h5) (by decide))]
       rw[jm,if_neg (by decide),if_neg (by show ¬ (5:Int)=3;decide),if_neg (by show ¬ (5:Int)=9;decide),hd];simp[dW,ordO]
      ·rw[hd];exact⟨rfl,rfl,rfl,rfl,rfl⟩
      ·rw[step5 (by rfl)];refine⟨by show(1:Int)≠0;decide,?_,rfl,?_⟩
       ·unfold dueG;rw[if_pos (by rfl)];show(takD _ _ _).kind=0;rw[takD,if_pos (by rfl)];rfl
       ·show hg.1=accL c n hg;rw[accL,if_neg (fun(x:0<hg.2.1/\dj c.t=true)=>hr x.2)]
    ·rw[if_neg hl];have hz:hg.2.1=0:=by omega
     refine⟨by show(1:Int)≠0;decide,?_,rfl,?_⟩
     ·rw[due_T,takD,if_pos (by show hg.2.1=0;exact hz)];rfl
     ·show hg.1=accL c n hg;rw[accL,if_neg (fun(x:0<hg.2.1/\dj c.t=true)=>hl x.1)]
  ·rw[if_neg E,if_neg E,if_neg (fun(x:refR n l c=0/\c.k=1)=>E x.2)]
   by_cases Q:c.k=2
   ·rw[if_pos Q,if_pos Q];have ht:=toldCan h0 Q;obtain⟨k,o,hp,D,hoi⟩:=plc_pos (ref_can ht);rw[hp,Int.toNat_natCast,D];simp only;refine⟨ok_left 6 (.inr (.inr (.inl rfl))) _ _,?_,fun K=>absurd (show(gr0 n l).bg=0 from rfl) K,?_⟩
    ·unfold zK;rw[if_neg (by show ¬ (6:Int)=1;decide),if_neg (by show ¬ (6:Int)=2;decide),if_pos (by rfl)]
     have hs:df (gr0 n l) ⟨6,zCm,c.i,0,o.left,0,0⟩=0:=by
      unfold df;rw[if_neg (by show ¬ (0:Int)≠0;decide)];show(if refR n l ⟨2,0,0,0,0,c.i,0,⟨#[]⟩⟩≠0 then(5:Int) else 0)=0
      rw[ht];rfl
     rw[hs,if_neg (by decide)];refine if_pos ?_;show o.left=leftAt l c.i;exact(leftAt_at hp D).symm
    ·rw[step6 (by rfl)];refine⟨by show(6:Int)≠0;decide,?_,rfl,?_⟩
     ·unfold dueG;rw[if_neg (by show ¬ (6:Int)=1;decide),if_neg (by show ¬ (6:Int)=8;decide)];rfl
     ·show hitI l c.i o.left = _;rw[gE hp D]
   ·rw[if_neg Q,if_neg Q]
    by_cases I:c.k=3
    ·rw[if_pos I,if_pos I];have ht:=toldRed h0 I;obtain⟨k,o,hp,D,hoi,-⟩:=ref_red ht;rw[hp,Int.toNat_natCast,D];refine⟨ok_left 7 (.inr (.inr (.inr (.inl rfl)))) _ _,?_,fun K=>absurd (show(gr0 n l).bg=0 from rfl) K,?_⟩
     ·unfold zK;rw[if_neg (by show ¬ (7:Int)=1;decide),if_neg (by show ¬ (7:Int)=2;decide),if_neg (by show ¬ (7:Int)=6;decide),if_pos (by rfl)];unfold df;rw[if_neg (by show ¬ (0:Int)≠0;decide)];show(if refR n l ⟨3,0,0,0,c.q,c.i,0,⟨#[]⟩⟩≠0 then(5:Int) else 0)=0
      rw[ht];rfl
     ·rw[step7 (by rfl)];refine⟨by show(7:Int)≠0;decide,?_,rfl,?_⟩
      ·unfold dueG;rw[if_neg (by show ¬ (7:Int)=1;decide),if_neg (by show ¬ (7:Int)=8;decide)];rfl
      ·show setI l c.i c.q = _;rw[setI_at hp D]
    ·rw[if_neg I,if_neg I];refine⟨ok_day _,?_,fun K=>absurd (show(gr0 n l).bg=0 from rfl) K,?_⟩
     ·unfold zK;rw[if_neg (by show ¬ (8:Int)=1;decide),if_neg (by show ¬ (8:Int)=2;decide),if_neg (by show ¬ (8:Int)=6;decide),if_neg (by show ¬ (8:Int)=7;decide),if_pos (by rfl)]
      have hs:df (gr0 n l) ⟨8,zCm,0,0,((l.filter dyB).length:Nat),0,0⟩=0:=by
       unfold df;rw[if_neg (by show ¬ (0:Int)≠0;decide)];show(if refR n l ⟨4,0,0,0,0,0,0,⟨#[]⟩⟩≠0 then(5:Int) else 0)=0
       rw[toldDay];rfl
      rw[hs,if_neg (by decide)];exact if_pos rfl
     ·rw[step8 (by rfl)];exact gov_day _ l F.rise rfl
 ·rw[if_neg h0,if_neg h0,if_neg (fun(x:refR n l c=0/\c.k=1)=>h0 x.1)];refine⟨ok_ref (cutC c) _ (gL _),?_,fun K=>absurd (show(gr0 n l).bg=0 from rfl) K,?_⟩
  ·unfold zK;rw[if_neg (by show ¬ (2:Int)=1;decide),if_pos (by rfl),if_neg (by show ¬ (0:Int)≠0;decide)];refine if_pos ?_;have e:refR n l (cutC c)=refR n l c:=refR_cut c;exact⟨by show refR n l (cutC c)≠0;rw[e];exact h0,e⟩
  ·rw[step2 (by rfl)];refine⟨by show(2:Int)≠0;decide,?_,rfl,rfl⟩;unfold dueG;rw[if_neg (by show ¬ (2:Int)=1;decide),if_neg (by show ¬ (2:Int)=8;decide)];rfl
theorem fbit_nil {p:Nat}(h:fbit p=0):p=0:=by
 unfold fbit at h;split at h
 ·cases h
 ·exact h
theorem plain_zc {c:Cm}(h:fT c=true):c=zCm:=by
 obtain⟨k,s,t,l,q,i,p,g⟩:=c;simp only[fT,xf,beq_iff_eq,xg] at h;obtain⟨rfl,rfl,rfl,rfl,rfl,rfl,hp,F⟩:=h;rw[fbit_nil hp]
 have:g=⟨#[]⟩:=by
  obtain⟨⟨d⟩⟩:=g;have e:(⟨⟨d⟩⟩:ByteArray).toList=d:=by rw[ByteArray.toList_eq]
  rw[e] at F;rw[F]
 rw[this];rfl
theorem late_zero {e:Ev}(h:okE e=true)(E:e.kind=3\/e.kind=4\/e.kind=5\/e.kind=9):e.cmd=zCm/\e.reason=0/\(e.kind≠3->e.other=0/\e.price=0):=by
 obtain⟨k,c,id,xj,qty,xk,xi⟩:=e;simp only at E;rcases E with rfl|rfl|rfl|rfl <;> simp[okE,fldK,eE,dw,List.range,List.range.loop] at h <;> simp only[ne_eq] <;> first|exact⟨plain_zc h.2,h.1,fun x=>absurd trivial x⟩|exact⟨plain_zc h.2,h.1.2.2,fun _=>⟨h.1.1,h.1.2.1⟩⟩
theorem due_plain {g:Gr}(h:(dueG g).kind=4\/(dueG g).kind=5):(dueG g).other=0/\(dueG g).price=0:=by
 rcases due_bg (g:=g) (by omega) with⟨-,e⟩|⟨-,e⟩
 ·rw[e] at h |-;unfold takD at h |-
  by_cases Z:g.tk.left=0
  ·rw[if_pos Z] at h;rcases h with h|h <;> cases h
  rw[if_neg Z] at h |-;cases hf:dv g.l (othS g.cm.s) with
  | none=>simp only;unfold lftD;split <;> exact⟨rfl,rfl⟩
  | some o =>
   rw[hf] at h;simp only at h |-
   by_cases Q:dL g.cm o=true
   ·rw[if_pos Q] at h;rcases h with h|h <;> cases h
   rw[if_neg Q];unfold lftD;split <;> exact⟨rfl,rfl⟩
 ·rw[e] at h;rcases dayD_kind g.l with h5|h5 <;> omega
theorem rule_due {g:Gr}{e:Ev}(D:okE e=true)(K:g.bg≠0)(h:zK g e=0):DueIs (dueG g) e/\(e.kind=3\/e.kind=4\/e.kind=5\/e.kind=9):=by
 have E:=fh D;rcases(show e.kind=1\/e.kind=2\/e.kind=3\/e.kind=4\/e.kind=5\/e.kind=6\/e.kind=7\/e.kind=8\/e.kind=9 by omega) with k|k|k|k|k|k|k|k|k
 ·exact absurd (rule1 k h).1 K
 ·exact absurd (rule2 k h) K
 ·refine⟨?_,by omega⟩;unfold zK at h;rw[if_neg (by omega),if_neg (by omega),if_neg (by omega),if_neg (by omega),if_neg (by omega)] at h
  by_cases hd:dueR g e=0
  ·rw[if_neg (by simpa using hd),if_pos k] at h;unfold trR at h;split at h
   ·omega
   split at h
   ·omega
   split at h
   ·omega
   split at h
   ·omega
   rename_i Z Q I h4;have Z:=Classical.not_not.1 Z;exact⟨by omega,Z.2.symm,(Classical.not_not.1 Q).symm,(Classical.not_not.1 h4).symm,(Classical.not_not.1 I).symm⟩
  ·rw[if_pos hd] at h;exact absurd h hd
 iterate 2
  ·refine⟨?_,by omega⟩;have hl:=late_zero D (by omega);unfold zK at h;rw[if_neg (by omega),if_neg (by omega),if_neg (by omega),if_neg (by omega),if_neg (by omega)] at h
   by_cases hd:dueR g e=0
   ·rw[if_neg (by simpa using hd),if_neg (by omega),if_neg (by omega)] at h;split at h
    ·rename_i hj;obtain⟨Z,Q,I⟩:=just_eq hj;obtain⟨h4,h5⟩:=due_plain (g:=g) (by omega);obtain⟨h6,h7⟩:=hl.2.2 (by omega);exact⟨Z.symm,Q.symm,by omega,I.symm,by omega⟩
    ·omega
   ·rw[if_pos hd] at h;exact absurd h hd
 ·exact absurd (rule6 k h).1 K
 ·exact absurd (rule7 k h).1 K
 ·exact absurd (rule8 k h) K
 ·refine⟨?_,by omega⟩;obtain⟨-,o,-,Q,I,h4⟩:=rule9 k h;obtain⟨h6,h7⟩:=(late_zero D (by omega)).2.2 (by omega);rw[Q];exact⟨k.symm,I.symm,h6.symm,h4.symm,h7.symm⟩
theorem due_one {g:Gr}{e x:Ev}(D:okE e=true)(hx:okE x=true)(K:g.bg≠0)(h:zK g e=0)(hd:DueIs (dueG g) x):e=x:=by
 obtain⟨⟨a1,a2,a3,a4,a5⟩,E⟩:=rule_due D K h;obtain⟨b1,b2,b3,b4,b5⟩:=hd;have Z:=late_zero D E;have Q:=late_zero hx (by omega);obtain⟨k,c,id,xj,qty,xk,xi⟩:=e;obtain⟨k',c',id',other',qty',price',reason'⟩:=x;simp only at a1 a2 a3 a4 a5 b1 b2 b3 b4 b5 Z Q;obtain⟨rfl,rfl,-⟩:=Z;obtain⟨rfl,rfl,-⟩:=Q;rw[<- a1,<- a2,<- a3,<- a4,<- a5,<- b1,<- b2,<- b3,<- b4,<- b5]
theorem run_zero {g g':Gr}{e:Ev}{r:List Ev}(h:runG g (e::r)=(g',0)):zK g e=0/\runG (dG g e) r=(g',0):=by
 by_cases h0:zK g e=0
 ·rw[runG_go h0] at h;exact⟨h0,h⟩
 ·rw[runG_stop h0] at h;exact absurd (Prod.mk.inj h).2 h0
theorem end_zero {g:Gr}(h:endR g=0):g.bg≠0/\(dueG g).kind=0:=by
 unfold endR at h;split at h
 ·cases h
 ·rename_i Z;exact⟨fun e=>Z (.inl e),Classical.not_not.1 fun e=>Z (.inr e)⟩
theorem law_run:∀ {es hk:List Ev}{g g':Gr}{N:Int}{L:List Od},g.bg≠0->Gov g hk N L->(∀e∈es,okE e=true)->runG g es=(g',0)->endR g'=0->es=hk/\g'.nx=N/\g'.l=L
 | [],[],g,g',N,L,K,F,D,hr,he=>by
  obtain rfl:=(Prod.mk.inj hr).1;exact⟨rfl,F.2.2.1,F.2.2.2⟩
 | [],x::xh,g,g',N,L,K,F,D,hr,he=>by
  obtain rfl:=(Prod.mk.inj hr).1;have Z:=F.2.2.1 K;have Q:=fh F.1;have I:=(end_zero he).2;have h4:=Z.1;omega
 | e::r,[],g,g',N,L,K,F,D,hr,he=>by
  obtain⟨Z,-⟩:=run_zero hr;obtain⟨Q,I⟩:=rule_due (D e (by simp)) K Z;have h4:=Q.1;have h5:=F.2.1;omega
 | e::r,x::xh,g,g',N,L,K,F,D,hr,he=>by
  obtain⟨Z,Q⟩:=run_zero hr;have I:=due_one (D e (by simp)) F.1 K Z (F.2.2.1 K);subst I;obtain⟨h4,h5,h6⟩:=law_run (beg_some (D e (by simp))) F.2.2.2 (fun y hy=>D y (by simp[hy])) Q he;exact⟨by rw[h4],h5,h6⟩
theorem cutB_id {s:ByteArray}(h:s.size<=13):cutB s=s:=by
 unfold cutB;split
 ·have e:s.size=13:=by omega
  rw[<- e];exact ByteArray.extract_zero_size
 ·rfl
theorem rule_start {g:Gr}{e:Ev}(E:e.kind=6\/e.kind=7\/e.kind=8)(h:zK g e=0):df g e=0:=by
 unfold zK at h;rw[if_neg (by omega),if_neg (by omega)] at h;rcases E with k|k|k
 ·rw[if_pos k] at h
  by_cases hs:df g e=0
  ·exact hs
  ·rw[if_pos hs] at h;exact h
 ·rw[if_neg (by omega),if_pos k] at h;exact h
 ·rw[if_neg (by omega),if_neg (by omega),if_pos k] at h
  by_cases hs:df g e=0
  ·exact hs
  ·rw[if_pos hs] at h;exact h
theorem lN {e:Ev}(h:okE e=true)(E:e.kind=6\/e.kind=7\/e.kind=8):e.cmd=zCm/\e.other=0/\e.price=0/\e.reason=0:=by
 obtain⟨k,c,id,xj,qty,xk,xi⟩:=e;simp only at E;rcases E with rfl|rfl|rfl <;> simp[okE,fldK,eE,dw,List.range,List.range.loop] at h
 ·exact⟨plain_zc h.2,h.1.1,h.1.2.1,h.1.2.2⟩
 ·exact⟨plain_zc h.2,h.1.1,h.1.2.1,h.1.2.2⟩
 ·exact⟨plain_zc h.2,h.1.2.1,h.1.2.2.1,h.1.2.2.2⟩
theorem law_first {n:Int}{l:List Od}{e:Ev}(D:okE e=true)(h:zK (gr0 n l) e=0):∃R,stE n l (da e)=e::R:=by
 have E:=fh D;have hnb:∀x:Int,(gr0 n l).bg=x->x≠0->False:=fun x hx h0=>h0 hx.symm;rcases(show e.kind=1\/e.kind=2\/e.kind=3\/e.kind=4\/e.kind=5\/e.kind=6\/e.kind=7\/e.kind=8\/e.kind=9 by omega) with k|k|k|k|k|k|k|k|k
 ·obtain⟨-,Z,Q⟩:=rule1 k h;obtain⟨kk,c,id,xj,qty,xk,xi⟩:=e;simp only at k Z Q;subst k;have e1:da ⟨1,c,id,xj,qty,xk,xi⟩=c:=if_pos rfl;simp[okE,fldK,eE,dw,List.range,List.range.loop] at D;obtain⟨⟨ha,K,hc,hd⟩,he,hi,-⟩:=D;subst ha K hc hd;rw[e1,stE,if_pos (show refR n l c=0 from Z),if_pos he,accE];obtain⟨ck,cs,ct,cl,cq,ci,cp,cg⟩:=c;simp only at he hi;subst he hi;exact⟨_,by rw[show id=n from Q];rfl⟩
 ·obtain⟨kk,c,id,xj,qty,xk,xi⟩:=e;simp only at k;subst k;have e1:da ⟨2,c,id,xj,qty,xk,xi⟩=c:=rfl;simp[okE,fldK,eE,dw,List.range,List.range.loop] at D;obtain⟨⟨ha,K,hc,hd⟩,he⟩:=D;subst ha K hc hd
  have Z:refR n l c≠0/\refR n l c=xi:=by
   unfold zK at h;rw[if_neg (by show ¬ (2:Int)=1;decide),if_pos rfl,if_neg (by show ¬ (0:Int)≠0;decide)] at h
   by_cases h5:refR (gr0 n l).nx (gr0 n l).l c≠0/\refR (gr0 n l).nx (gr0 n l).l c=xi
   ·exact h5
   ·rw[if_neg h5] at h;cases h
  rw[e1,stE,if_neg Z.1,cutB_id he,Z.2];exact⟨[],rfl⟩
 ·exact absurd (rule3 k h).1 (by show ¬ (0:Int)=1;decide)
 ·exact absurd (rule45 (.inl k) h).1 (by show ¬ (0:Int)=1;decide)
 ·exact absurd (rule45 (.inr k) h).1 (by show ¬ (0:Int)=1;decide)
 ·obtain⟨-,kk,o,Z,Q,I,h4⟩:=rule6 k h;have hs:=rule_start (by omega) h;obtain⟨z,c,id,xj,qty,xk,xi⟩:=e;simp only at k Z Q I h4;subst k;obtain⟨e1,e2,e3,e4⟩:=lN D (.inl rfl);simp only at e1 e2 e3 e4;subst e1 e2 e3 e4;have hr:refR n l ⟨2,0,0,0,0,id,0,⟨#[]⟩⟩=0:=(fq hs).2;refine⟨[],?_⟩;show stE n l ⟨2,0,0,0,0,id,0,⟨#[]⟩⟩ = _;rw[stE,if_pos hr,if_neg (by show ¬ (2:Int)=1;decide),if_pos rfl];show(match l[(plc l id).toNat]? with|some o=>_ | none=>_) = _
  rw[show plc l id=(kk:Int) from Z,Int.toNat_natCast,show l[kk]? = some o from Q,h4]
 ·have hs:=rule_start (by omega) h;obtain⟨z,c,id,xj,qty,xk,xi⟩:=e;simp only at k;subst k;obtain⟨e1,e2,e3,e4⟩:=lN D (.inr (.inl rfl));simp only at e1 e2 e3 e4;subst e1 e2 e3 e4;have hr:refR n l ⟨3,0,0,0,qty,id,0,⟨#[]⟩⟩=0:=(fq hs).2;refine⟨[],?_⟩;show stE n l ⟨3,0,0,0,qty,id,0,⟨#[]⟩⟩ = _;rw[stE,if_pos hr,if_neg (by show ¬ (3:Int)=1;decide),if_neg (by show ¬ (3:Int)=2;decide),if_pos rfl]
 ·have hs:=rule_start (by omega) h
  have hq:e.qty=((l.filter isDy).length:Int):=by
   unfold zK at h;rw[if_neg (by omega),if_neg (by omega),if_neg (by omega),if_neg (by omega),if_pos k,if_neg (by rw[hs];decide)] at h
   by_cases h5:e.qty=(((gr0 n l).l.filter isDy).length:Int)
   ·exact h5
   ·rw[if_neg h5] at h;cases h
  obtain⟨z,c,id,xj,qty,xk,xi⟩:=e;simp only at k hq;subst k;obtain⟨e1,e2,e3,e4⟩:=lN D (.inr (.inr rfl));simp only at e1 e2 e3 e4;subst e1 e2 e3 e4;have e5:id=0:=by simp[okE,fldK,eE,dw,List.range,List.range.loop] at D;exact D.1
  subst e5;have hr:refR n l ⟨4,0,0,0,0,0,0,⟨#[]⟩⟩=0:=(fq hs).2;refine⟨(l.filter dyB).map expE,?_⟩;show stE n l ⟨4,0,0,0,0,0,0,⟨#[]⟩⟩ = _;rw[stE,if_pos hr,if_neg (by show ¬ (4:Int)=1;decide),if_neg (by show ¬ (4:Int)=2;decide),if_neg (by show ¬ (4:Int)=3;decide),hq,day_same]
 ·exact absurd (rule9 k h).1 (by show ¬ (0:Int)=8;decide)
theorem law_eng {n:Int}{l:List Od}{es:List Ev}{g:Gr}(F:GoodL l)(D:∀e∈es,okE e=true)(hr:runG (gr0 n l) es=(g,0))(he:endR g=0) :
  ∃e r,es=e::r/\es=stE n l (da e)/\g.nx=stN n l (da e)/\g.l=stL n l (da e):=by
 cases es with
 | nil =>
  obtain rfl:=(Prod.mk.inj hr).1;exact absurd rfl (end_zero he).1
 | cons e r =>
  obtain⟨Z,Q⟩:=run_zero hr;obtain⟨R,hR⟩:=law_first (D e (by simp)) Z;have hG:=iJ (n:=n) (c:=da e) F;rw[hR] at hG;obtain⟨h4,h5,h6⟩:=law_run (beg_some (D e (by simp))) hG.2.2.2 (fun y hy=>D y (by simp[hy])) Q he;exact⟨e,r,rfl,by rw[hR,h4],h5,h6⟩
inductive GJ where
 | bad (at_:Nat) (cC:Int)
 | ok (g:Gr) (es:List Ev)
def evsJ (p:List Int):Nat->Nat->Gr->List Ev->GJ
 | 0,_,g,es=>.ok g es
 | f+1,k,g,es=>if p.length<=k then .ok g es else match evA p k with
  | none=>.bad k 2
  | some (e,n)=>if zK g e=0 then evsJ p f n (dG g e) (es ++ [e]) else .bad k (zK g e)
theorem evsJ_fuel {p:List Int}:∀(f f' k:Nat) (g:Gr) (es:List Ev),p.length<k+f->p.length<k+f'->evsJ p f k g es=evsJ p f' k g es
 | 0,f',k,g,es,h,h'=>by
  cases f' with
  | zero=>rfl
  | succ f'=>rw[evsJ,evsJ,if_pos (by omega)]
 | f+1,0,k,g,es,h,h'=>by rw[evsJ,evsJ,if_pos (by omega)]
 | f+1,f'+1,k,g,es,h,h'=>by
  rw[evsJ,evsJ];split
  ·rfl
  cases he:evA p k with
  | none=>rfl
  | some x =>
   obtain⟨e,n⟩:=x;have hn:=evA_le he;simp only;split
   ·exact evsJ_fuel f f' n _ _ (by omega) (by omega)
   ·rfl
def evsK (p:List Int)(k:Nat)(g:Gr)(es:List Ev):GJ:=evsJ p (p.length+1) k g es
theorem evsK_end {p:List Int}{k:Nat}{g:Gr}{es:List Ev}(h:p.length<=k):evsK p k g es = .ok g es:=by
 unfold evsK;rw[evsJ,if_pos h]
theorem evsK_none {p:List Int}{k:Nat}{g:Gr}{es:List Ev}(h:k<p.length)(he:evA p k=none):evsK p k g es = .bad k 2:=by
 unfold evsK;rw[evsJ,if_neg (by omega),he]
theorem evsK_bad {p:List Int}{k n:Nat}{g:Gr}{es:List Ev}{e:Ev}(h:k<p.length)(he:evA p k=some (e,n))(hr:zK g e≠0):evsK p k g es = .bad k (zK g e):=by
 unfold evsK;rw[evsJ,if_neg (by omega),he];simp only;rw[if_neg hr]
theorem evsK_go {p:List Int}{k n:Nat}{g:Gr}{es:List Ev}{e:Ev}(h:k<p.length)(he:evA p k=some (e,n))(hr:zK g e=0):evsK p k g es=evsK p n (dG g e) (es ++ [e]):=by
 unfold evsK;rw[evsJ,if_neg (by omega),he];simp only;rw[if_pos hr];exact evsJ_fuel _ _ _ _ _ (by have:=evA_le he;omega) (by omega)
theorem evsJ_run {p:List Int}:∀(f k:Nat) (g g':Gr) (es es':List Ev),evsJ p f k g es = .ok g' es'->∃r,es'=es++r/\runG g r=(g',0)/\∀e∈r,okE e=true/\e.cmd.g.size<=13
 | 0,k,g,g',es,es',h=>by rw[evsJ] at h;cases h;exact⟨[],by simp,rfl,by simp⟩
 | f+1,k,g,g',es,es',h=>by
  rw[evsJ] at h;split at h
  ·cases h;exact⟨[],by simp,rfl,by simp⟩
  cases he:evA p k with
  | none=>rw[he] at h;cases h
  | some x =>
   obtain⟨e,n⟩:=x;rw[he] at h;simp only at h;split at h
   ·rename_i h0;obtain⟨r,Z,Q,I⟩:=evsJ_run f n _ g' _ es' h;refine⟨e::r,by rw[Z];simp,by rw[runG_go h0];exact Q,fun x hx=>?_⟩;rcases List.mem_cons.1 hx with rfl|hx
    ·exact evA_ok he
    ·exact I x hx
   ·cases h
def grpJ (p:List Int)(cs:List Cm):(Nat × Int) ⊕ Cm:=match evsK p 0 (gr0 (runS cs).n (runS cs).l) [] with
 | .bad k r=>.inl (k,r)
 | .ok g es=>if endR g=0 then .inr (da (es.headD ⟨0,zCm,0,0,0,0,0⟩)) else .inl (p.length,15)
theorem grpJ_bad {p:List Int}{cs:List Cm}{k:Nat}{r:Int}(h:evsK p 0 (gr0 (runS cs).n (runS cs).l) [] = .bad k r):grpJ p cs = .inl (k,r):=by unfold grpJ;rw[h]
theorem grpJ_short {p:List Int}{cs:List Cm}{g:Gr}{es:List Ev}(h:evsK p 0 (gr0 (runS cs).n (runS cs).l) [] = .ok g es)(he:endR g≠0):grpJ p cs = .inl (p.length,15):=by unfold grpJ;rw[h];simp only;rw[if_neg he]
theorem grpJ_ok {p:List Int}{cs:List Cm}{g:Gr}{es:List Ev}(hl:cs.length<=200)(h:evsK p 0 (gr0 (runS cs).n (runS cs).l) [] = .ok g es)(he:endR g=0) :
  ∃e r,es=e::r/\grpJ p cs = .inr (da e)/\es=stE (runS cs).n (runS cs).l (da e)/\g.nx=stN (runS cs).n (runS cs).l (da e)/\g.l=stL (runS cs).n (runS cs).l (da e)/\(da e).g.size<=13:=by
 obtain⟨r,Z,Q,I⟩:=evsJ_run _ _ _ _ _ _ h;rw[List.nil_append] at Z;subst Z;obtain⟨e,r',rfl,h5,h6,h7⟩:=law_eng (iu cs hl).1.good (fun e he=>(I e he).1) Q he;refine⟨e,r',rfl,?_,h5,h6,h7,?_⟩
 ·unfold grpJ;rw[h];simp only;rw[if_pos he];rfl
 ·have:=(I e (by simp)).2;unfold da
  repeat' split
  all_goals first|exact this|exact Nat.zero_le _
def ttJ (cs:List Cm):Tt:=⟨(wbT (runS cs).t (runS cs).l).gr,(wbT (runS cs).t (runS cs).l).ac,(wbT (runS cs).t (runS cs).l).rf,(wbT (runS cs).t (runS cs).l).tr,(wbT (runS cs).t (runS cs).l).vo,(wbT (runS cs).t (runS cs).l).no,(wbT (runS cs).t (runS cs).l).li,(wbT (runS cs).t (runS cs).l).le⟩
def endJ (l:List Int)(n t:Nat)(cs:List Cm):Nat × Int:=
 if (l.drop n).take (t-n)≠pay (ttJ cs).ns then(n,16) else if t+2<l.length then(t+2,17) else(0,0)
def jdF (l:List Int):Nat->Nat->Int->List Cm->List Cm × Nat × Int
 | 0,k,_,cs=>(cs,k,1)
 | f+1,k,s,cs=>match frA l k s with
  | none=>(cs,k,1)
  | some (m,n,t,s2)=>if m=69 then(cs,endJ l n t cs) else if cs.length=200 then(cs,k,18) else
   match grpJ ((l.drop n).take (t-n)) cs with
   | .inl (q,r)=>(cs,n+q,r)
   | .inr c=>jdF l f (t+2) s2 (cs ++ [c])
theorem jdF_fuel {l:List Int}:∀(f f' k:Nat) (s:Int) (cs:List Cm),l.length<k+f->l.length<k+f'->jdF l f k s cs=jdF l f' k s cs
 | 0,f',k,s,cs,h,h'=>by
  cases f' with
  | zero=>rfl
  | succ f'=>rw[jdF,jdF,frA_end (by omega)]
 | f+1,0,k,s,cs,h,h'=>by rw[jdF,jdF,frA_end (by omega)]
 | f+1,f'+1,k,s,cs,h,h'=>by
  rw[jdF,jdF];cases hf:frA l k s with
  | none=>rfl
  | some x =>
   obtain⟨m,n,t,s2⟩:=x;have hn:=frA_some hf;simp only;split
   ·rfl
   split
   ·rfl
   cases grpJ ((l.drop n).take (t-n)) cs with
   | inl x=>rfl
   | inr c=>exact jdF_fuel f f' _ _ _ (by omega) (by omega)
def jdK (l:List Int)(k:Nat)(s:Int)(cs:List Cm):List Cm × Nat × Int:=jdF l (l.length+1) k s cs
theorem jdK_none {l:List Int}{k:Nat}{s:Int}{cs:List Cm}(h:frA l k s=none):jdK l k s cs=(cs,k,1):=by unfold jdK;rw[jdF,h]
theorem jdK_end {l:List Int}{k:Nat}{s:Int}{cs:List Cm}{n t:Nat}{s2:Int}(h:frA l k s=some (69,n,t,s2)):jdK l k s cs=(cs,endJ l n t cs):=by unfold jdK;rw[jdF,h];simp
theorem jdK_many {l:List Int}{k:Nat}{s:Int}{cs:List Cm}{n t:Nat}{s2:Int}(h:frA l k s=some (71,n,t,s2))(hc:cs.length=200):jdK l k s cs=(cs,k,18):=by unfold jdK;rw[jdF,h];simp[hc]
theorem jdK_bad {l:List Int}{k:Nat}{s:Int}{cs:List Cm}{n t:Nat}{s2:Int}{q:Nat}{r:Int}(h:frA l k s=some (71,n,t,s2))(hc:cs.length≠200)(F:grpJ ((l.drop n).take (t-n)) cs = .inl (q,r)):jdK l k s cs=(cs,n+q,r):=by
 unfold jdK;rw[jdF,h];simp only;rw[if_neg (by decide),if_neg hc,F]
theorem jdK_go {l:List Int}{k:Nat}{s:Int}{cs:List Cm}{n t:Nat}{s2:Int}{c:Cm}(h:frA l k s=some (71,n,t,s2))(hc:cs.length≠200)(F:grpJ ((l.drop n).take (t-n)) cs = .inr c):jdK l k s cs=jdK l (t+2) s2 (cs ++ [c]):=by
 unfold jdK;rw[jdF,h];simp only;rw[if_neg (by decide),if_neg hc,F];exact jdF_fuel _ _ _ _ _ (by have:=frA_some h;omega) (by omega)
def judJ (l:List Int):List Cm × Nat × Int:=if l.take 3 = [84,74,49] then jdK l 3 (sumL [84,74,49] 1) [] else([],0,1)
def pkO (cs:List Cm):Nat:=(List.range cs.length).foldl (fun m i=>max m (runS (cs.take (i+1))).l.length) 0
def pkL (cs:List Cm):Nat:=(List.range cs.length).foldl (fun m i=>max m (nlev (runS (cs.take (i+1))).l)) 0
theorem lk {α β:Type}{f g:β->α->β}:∀(l:List α) (m:β),(∀a∈l,∀m,f m a=g m a)->l.foldl f m=l.foldl g m
 | [],m,h=>rfl
 | a::l,m,h=>by rw[List.foldl_cons,List.foldl_cons,h a (by simp),lk l _ fun b K=>h b (by simp[K])]
theorem pkO_snoc (cs:List Cm)(c:Cm):pkO (cs ++ [c])=max (pkO cs) (runS (cs ++ [c])).l.length:=by
 unfold pkO;rw[yQ,List.length_singleton,List.range_succ,List.foldl_append];simp only[List.foldl_cons,List.foldl_nil];rw[xa (l:=cs ++ [c]) (by simp)];congr 1;refine lk _ _ fun i hi m=>?_;rw[List.take_append_of_le_length (by have:=List.mem_range.1 hi;omega)]
theorem pkL_snoc (cs:List Cm)(c:Cm):pkL (cs ++ [c])=max (pkL cs) (nlev (runS (cs ++ [c])).l):=by
 unfold pkL;rw[yQ,List.length_singleton,List.range_succ,List.foldl_append];simp only[List.foldl_cons,List.foldl_nil];rw[xa (l:=cs ++ [c]) (by simp)];congr 1;refine lk _ _ fun i hi m=>?_;rw[List.take_append_of_le_length (by have:=List.mem_range.1 hi;omega)]
theorem run_snoc (cs:List Cm)(c:Cm):runS (cs ++ [c])=rstep (runS cs) c:=by unfold runS;rw[List.foldl_append];rfl
end Go.Proofs.YtkofhemdefffpaaGreatDoor
