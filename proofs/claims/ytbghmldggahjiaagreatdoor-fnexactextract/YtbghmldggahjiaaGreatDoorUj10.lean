/-.-/
import Derived.Test.YtbghmldggahjiaaGreatDoorUj09
import Derived.WalkLawsBesides
import Derived.Deep.RegionWith
import Derived.Deep.LoopGhost
import Derived.BigRegion
set_option linter.unusedVariables false
set_option maxHeartbeats 6400000
set_option maxRecDepth 100000
namespace Go.Proofs.YtbghmldggahjiaaGreatDoor
open Go.RowKit
def ahd (s:Bool)(a b:Od):Prop:=bt s a.ticks b.ticks\/(a.ticks=b.ticks/\a.id<b.id)
theorem ahd_irr (s:Bool)(a:Od):¬ ahd s a a:=by
 rintro(h|h)
 ·exact bt_irr _ _ h
 ·omega
theorem ahd_trans {s:Bool}{a b c:Od}(D:ahd s a b)(E:ahd s b c):ahd s a c:=by
 rcases D with D|⟨e1,D⟩ <;> rcases E with E|⟨e2,E⟩
 ·exact .inl (bt_trans D E)
 ·exact .inl (e2 ▸ D)
 ·exact .inl (e1 ▸ E)
 ·exact .inr ⟨e1.trans e2,by omega⟩
theorem ahd_asymm {s:Bool}{a b:Od}(D:ahd s a b):¬ ahd s b a:=fun E=>ahd_irr s a (ahd_trans D E)
theorem ahd_total {s:Bool}{a b:Od}(h:a.id≠b.id):ahd s a b\/ahd s b a:=by
 rcases bt_total s a.ticks b.ticks with D|D|D
 ·exact .inl (.inl D)
 ·rcases Int.lt_or_gt_of_ne h with E|E
  ·exact .inl (.inr ⟨D,E⟩)
  ·exact .inr (.inr ⟨D.symm,E⟩)
 ·exact .inr (.inl D)
def ew (l:List Od):Prop:=l.Pairwise (fun a b=>a.id<b.id)
def zB (l:List Od)(sd:Int):List Od:=l.filter (fun o=>decide (o.side=sd))
theorem ofSide_snoc (l:List Od)(k:Nat)(c:Od)(h:l[k]? = some c):zB (l.take (k+1)) c.side=zB (l.take k) c.side ++ [c]:=by
 obtain⟨X,rfl⟩:=yG.1 h;unfold zB;rw[List.take_succ_eq_append_getElem X,List.filter_append];simp
theorem ofSide_skip (l:List Od)(k:Nat)(c:Od){sd:Int}(h:l[k]? = some c)(hs:¬ c.side=sd):zB (l.take (k+1)) sd=zB (l.take k) sd:=by
 obtain⟨X,rfl⟩:=yG.1 h;unfold zB;rw[List.take_succ_eq_append_getElem X,List.filter_append];simp[hs]
theorem perm_split (p:Od->Bool):∀l:List Od,List.Perm (l.filter p++l.filter (fun o=>!p o)) l
 | []=>by simp
 | a::l=>by
  have ih:=perm_split p l
  by_cases h:p a=true
  ·simp only[List.filter_cons,h,if_true,Bool.not_true,Bool.false_eq_true,if_false,List.cons_append];exact ih.cons a
  ·simp only[Bool.not_eq_true] at h;simp only[List.filter_cons,h,Bool.false_eq_true,if_false,Bool.not_false,if_true];exact List.perm_middle.trans (ih.cons a)
theorem flat_perm:∀(T:List Int) (seq:List Od),T.Nodup->(∀o∈seq,o.ticks∈T)->List.Perm (T.flatMap (atK seq)) seq
 | [],seq,_,h=>by
  cases seq with
  | nil=>simp
  | cons a r=>exact absurd (h a (by simp)) (by simp)
 | k::T,seq,hd,h=>by
  have hd':=List.nodup_cons.1 hd
  have e:T.flatMap (atK seq)=T.flatMap (atK (seq.filter (fun o=>!decide (o.ticks=k)))):=by
   rw[List.flatMap_def,List.flatMap_def];congr 1;refine List.map_congr_left fun k' hk'=>?_;unfold atK;rw[List.filter_filter];refine List.filter_congr fun o _=>?_
   by_cases D:o.ticks=k'
   ·have:¬ o.ticks=k:=fun e=>hd'.1 (by rw[<- e,D];exact hk');simp[D];rw[<- D];exact this
   ·simp[D]
  rw[List.flatMap_cons,e];refine(List.Perm.append_left _ (flat_perm T _ hd'.2 (fun o K=>?_))).trans (perm_split _ seq);simp at K;rcases List.mem_cons.1 (h o K.1) with D|D
  ·exact absurd D K.2
  ·exact D
theorem flat_sorted {s:Bool}:∀ {T:List Int} {seq:List Od},T.Pairwise (bt s)->ew seq->(T.flatMap (atK seq)).Pairwise (ahd s)
 | [],_,_,_=>by simp
 | k::T,seq,hT,hr=>by
  obtain⟨p1,p2⟩:=List.pairwise_cons.1 hT;rw[List.flatMap_cons,List.pairwise_append];refine⟨?_,flat_sorted p2 hr,fun a ha b A=>?_⟩
  ·have D:(atK seq k).Pairwise (fun a b=>a.id<b.id):=List.Pairwise.sublist List.filter_sublist hr;refine D.imp_of_mem fun {a b} ha A hab=>.inr ⟨?_,hab⟩;simp[atK] at ha A;rw[ha.2,A.2]
  ·simp only[List.mem_flatMap] at A;obtain⟨k',D,E⟩:=A;simp[atK] at ha E;exact .inl (by rw[ha.2,E.2];exact p1 k' D)
theorem bt_nodup {s:Bool}{T:List Int}(h:T.Pairwise (bt s)):T.Nodup:=by
 unfold List.Nodup;refine h.imp fun {a b} hab=>?_;rintro rfl;exact bt_irr s a hab
structure IsT (s:Bool) (seq:List Od) (T:List Int):Prop where
 sorted:T.Pairwise (bt s)
 mem:∀k,k∈T ↔ ∃o∈seq,o.ticks=k
theorem isT_of {s:Bool}{S:TS}{t:Tr}{sd:Int}{seq:List Od}(hi:TI s S t)(hq:QI S t sd seq):IsT s seq (t.hs.map fun h=>(S.nd h).ticks):=by
 refine⟨?_,fun k=>⟨fun X=>?_,?_⟩⟩
 ·rw[List.pairwise_map];exact hi.sorted
 ·obtain⟨h,D,rfl⟩:=List.mem_map.1 X;have:=(hq.q h D).ne;obtain⟨a,ha⟩:=List.exists_mem_of_ne_nil _ this;obtain⟨_,_,o,h3,h4⟩:=fD _ _ _ _ ha;exact⟨o,yO h3,h4⟩
 ·rintro⟨o,K,rfl⟩;obtain⟨h,D,E⟩:=hq.cover o K;exact List.mem_map.2 ⟨h,D,E⟩
def nlevR:List Od->Nat
 | []=>0
 | x::r=>nlevR r+if ∃y∈r,y.side=x.side/\y.ticks=x.ticks then 0 else 1
theorem nlevR_eq:∀(l:List Od) (hb B:List Int),hb.Nodup->B.Nodup->(∀o∈l,o.side=1\/o.side=2)->(∀k,k∈hb ↔ ∃o∈l,o.side=1/\o.ticks=k)->(∀k,k∈B ↔ ∃o∈l,o.side=2/\o.ticks=k)->nlevR l=hb.length+B.length
 | [],hb,B,_,_,_,hA,hB=>by
  have a0:hb = []:=List.eq_nil_iff_forall_not_mem.2 fun k X=>by obtain⟨o,h,_⟩:=(hA k).1 X;simp at h
  have b0:B = []:=List.eq_nil_iff_forall_not_mem.2 fun k X=>by obtain⟨o,h,_⟩:=(hB k).1 X;simp at h
  rw[a0,b0];rfl
 | x::l,hb,B,dA,dB,hs,hA,hB=>by
  rw[nlevR];have uO:∀o∈l,o.side=1\/o.side=2:=fun o K=>hs o (by simp[K])
  by_cases he:∃y∈l,y.side=x.side/\y.ticks=x.ticks
  ·rw[if_pos he];obtain⟨y,hy,e1,e2⟩:=he;refine nlevR_eq l hb B dA dB uO (fun k=>(hA k).trans ⟨?_,?_⟩) (fun k=>(hB k).trans ⟨?_,?_⟩)
   ·rintro⟨o,K,D,E⟩;rcases List.mem_cons.1 K with rfl|K
    ·exact⟨y,hy,e1.trans D,e2.trans E⟩
    ·exact⟨o,K,D,E⟩
   ·rintro⟨o,K,h⟩;exact⟨o,by simp[K],h⟩
   ·rintro⟨o,K,D,E⟩;rcases List.mem_cons.1 K with rfl|K
    ·exact⟨y,hy,e1.trans D,e2.trans E⟩
    ·exact⟨o,K,D,E⟩
   ·rintro⟨o,K,h⟩;exact⟨o,by simp[K],h⟩
  ·rw[if_neg he];have vZ:∀y∈l,y.side=x.side->y.ticks≠x.ticks:=fun y hy D E=>he ⟨y,hy,D,E⟩;rcases hs x (by simp) with hx|hx
   ·have hxA:x.ticks∈hb:=(hA _).2 ⟨x,by simp,hx,rfl⟩;have:=nlevR_eq l (hb.erase x.ticks) B (dA.erase _) dB uO (fun k=>?_) (fun k=>(hB k).trans ⟨?_,?_⟩)
    ·rw[List.length_erase_of_mem hxA] at this;have hp:0<hb.length:=List.length_pos_of_mem hxA;omega
    ·rw[List.Nodup.mem_erase_iff dA,hA];constructor
     ·rintro⟨X,o,K,D,E⟩;rcases List.mem_cons.1 K with rfl|K
      ·exact absurd E.symm X
      ·exact⟨o,K,D,E⟩
     ·rintro⟨o,K,D,E⟩;exact⟨fun e=>vZ o K (D.trans hx.symm) (E.trans e),o,by simp[K],D,E⟩
    ·rintro⟨o,K,D,E⟩;rcases List.mem_cons.1 K with rfl|K
     ·omega
     ·exact⟨o,K,D,E⟩
    ·rintro⟨o,K,h⟩;exact⟨o,by simp[K],h⟩
   ·have hxB:x.ticks∈B:=(hB _).2 ⟨x,by simp,hx,rfl⟩;have:=nlevR_eq l hb (B.erase x.ticks) dA (dB.erase _) uO (fun k=>(hA k).trans ⟨?_,?_⟩) (fun k=>?_)
    ·rw[List.length_erase_of_mem hxB] at this;have hp:0<B.length:=List.length_pos_of_mem hxB;omega
    ·rintro⟨o,K,D,E⟩;rcases List.mem_cons.1 K with rfl|K
     ·omega
     ·exact⟨o,K,D,E⟩
    ·rintro⟨o,K,h⟩;exact⟨o,by simp[K],h⟩
    ·rw[List.Nodup.mem_erase_iff dB,hB];constructor
     ·rintro⟨X,o,K,D,E⟩;rcases List.mem_cons.1 K with rfl|K
      ·exact absurd E.symm X
      ·exact⟨o,K,D,E⟩
     ·rintro⟨o,K,D,E⟩;exact⟨fun e=>vZ o K (D.trans hx.symm) (E.trans e),o,by simp[K],D,E⟩
def nlev (l:List Od):Nat:=nlevR l.reverse
theorem nlev_snoc (l:List Od)(x:Od):nlev (l ++ [x])=nlev l+if ∃y∈l,y.side=x.side/\y.ticks=x.ticks then 0 else 1:=by
 unfold nlev;rw[List.reverse_append];simp[nlevR]
theorem nlev_eq {l:List Od}{hb B:List Int}(hs:∀o∈l,o.side=1\/o.side=2)(hA:IsT true (zB l 1) hb)(hB:IsT false (zB l 2) B):nlev l=hb.length+B.length:=by
 refine nlevR_eq _ hb B (bt_nodup hA.sorted) (bt_nodup hB.sorted) (fun o K=>hs o (by simpa using K)) (fun k=>(hA.mem k).trans ?_) (fun k=>(hB.mem k).trans ?_)
 ·simp[zB,and_assoc]
 ·simp[zB,and_assoc]
def IsFront (s:Bool)(l:List Od)(sd:Int)(i:Nat)(o:Od):Prop:=l[i]? = some o/\o.side=sd/\∀j o',l[j]? = some o'->o'.side=sd->j≠i->ahd s o o'
theorem front_unique {s:Bool}{l:List Od}{sd:Int}{i j:Nat}{o o':Od}(h:IsFront s l sd i o)(h':IsFront s l sd j o'):i=j/\o=o':=by
 obtain⟨a1,a2,a3⟩:=h;obtain⟨b1,b2,b3⟩:=h'
 have pY:i=j:=by
  rcases Nat.decEq i j with xy|rfl
  ·exact absurd (a3 j o' b1 b2 (fun e=>xy e.symm)) (ahd_asymm (b3 i o a1 a2 xy))
  ·rfl
 subst pY;rw[a1] at b1;exact⟨rfl,Option.some.inj b1⟩
theorem queue_front {s:Bool}{l:List Od}{sd:Int}{T:List Int}(hr:ew l)(hT:IsT s (zB l sd) T){o:Od}(K:(T.flatMap (atK (zB l sd))).head? = some o) :
  ∃i,IsFront s l sd i o:=by
 have hrs:ew (zB l sd):=List.Pairwise.sublist List.filter_sublist hr;have hp:=flat_perm T (zB l sd) (bt_nodup hT.sorted) (fun o K=>(hT.mem _).2 ⟨o,K,rfl⟩);have bF:=flat_sorted hT.sorted hrs;generalize T.flatMap (atK (zB l sd))=yc at *;cases yc with
 | nil=>simp at K
 | cons a r =>
  simp at K;subst K;have hm:a∈zB l sd:=hp.mem_iff.1 (by simp);simp[zB] at hm;obtain⟨i,hi⟩:=List.mem_iff_getElem?.1 hm.1;refine⟨i,hi,hm.2,fun j o' hj hs xy=>?_⟩;have hm':o'∈a::r:=hp.mem_iff.2 (by simp[zB];exact⟨yO hj,hs⟩);rcases List.mem_cons.1 hm' with rfl|hm'
  ·exfalso;obtain⟨D,e1⟩:=yG.1 hi;obtain⟨E,e2⟩:=yG.1 hj;have hp2:=List.pairwise_iff_getElem.1 hr;rcases Nat.lt_or_gt_of_ne xy with h|h
   ·have:=hp2 j i E D h;rw[e1,e2] at this;omega
   ·have:=hp2 i j D E h;rw[e1,e2] at this;omega
  ·exact(List.pairwise_cons.1 bF).1 o' hm'
theorem queue_none {s:Bool}{l:List Od}{sd:Int}{T:List Int}(hT:IsT s (zB l sd) T)(K:(T.flatMap (atK (zB l sd))).head? = none):∀o∈l,o.side≠sd:=by
 have hp:=flat_perm T (zB l sd) (bt_nodup hT.sorted) (fun o K=>(hT.mem _).2 ⟨o,K,rfl⟩);rw[List.head?_eq_none_iff] at K;rw[K] at hp;have:=List.nil_perm.1 hp;intro o D E;have hm:o∈zB l sd:=by simp[zB];exact⟨D,E⟩
 rw[this] at hm;simp at hm
def Od.vs (o:Od):List Value:=(yw o.id o.side o.ticks o.left o.life o.tag)
theorem Od.len (o:Od):o.vs.length=6:=rfl
def Od.val (o:Od):Value:=.agg (yw o.id o.side o.ticks o.left o.life o.tag).toArray
def Nd.vs (n:Nd):List Value:=[H n.side,H n.ticks,H n.qty,H n.count,H n.be,H n.wo,H n.el,H n.yo]
def Qo.vs (q:Qo):List Value:=[H q.od.id,H q.od.side,H q.od.ticks,H q.od.left,H q.od.life,yk q.od.tag,H q.yg]
structure TM (T:TypeId) (w:World) (b:Nat) (S:TS):Prop where
  root:w.cell? ⟨b,0,none⟩=some (.int .i64 S.root)
  lc:w.cell? ⟨b,1,none⟩=some (.int .i64 S.lc)
  nd:∀i,i<21->w.rangeAt b (2+i*8) (S.nd i).vs
  oc:w.cell? ⟨b,170,none⟩=some (.int .i64 S.oc)
  qo:∀i,i<21->w.rangeAt b (171+i*7) (S.qo i).vs
  fr:∀o,w.frozen? ⟨b,o,none⟩=false
  obj:∃cur,w.heap[b]? = some (.cells cur T (0,0))
theorem gP {w:World}{b o:Nat}{v:Value}{T:TypeId}(h:∃xr,w.heap[b]? = some (.cells xr T (0,0))):∃xr,(w.setCell (U b o) v).heap[b]? = some (.cells xr T (0,0)):=by
  obtain⟨xr,h⟩:=h;exact⟨xr.setIfInBounds o v,by simp[World.setCell,Array.getElem?_modify,h]⟩
theorem tm_lt {w:World}{b:Nat}{S:TS}{T:TypeId}(h:TM T w b S):b<w.heap.size:=yK w _ h.root
theorem eH {w w':World}{b:Nat}{S:TS}{T:TypeId}(h:TM T w b S)(A:w'.heap[b]? = w.heap[b]?):TM T w' b S:=
  ⟨(yQ (a:=(U b 0)) A).trans h.root,(yQ (a:=(U b 1)) A).trans h.lc,
   fun i hi j v hv=>(yQ (a:=(U b (2+i*8+j))) A).trans (h.nd i hi j v hv),(yQ (a:=(U b 170)) A).trans h.oc,
   fun i hi j v hv=>(yQ (a:=(U b (171+i*7+j))) A).trans (h.qo i hi j v hv),fun o=>(World.frozen?_of_block (a:=(U b o)) A).trans (h.fr o),by rw[A];exact h.obj⟩
theorem gN {w w':World}{b C:Nat}{S:TS}{T:TypeId}(h:TM T w b S)(A:Below C w w')(hC:b<C):TM T w' b S:=eH h (A.block b hC)
theorem iI {w w':World}{b:Nat}{G:Option Nat}{S:TS}{T:TypeId}(h:TM T w b S)(M:w.grownBy w' G)(xy:some b≠G):TM T w' b S:=eH h (M.block b (tm_lt h) xy)
theorem ge {w:World}{b o n:Nat}{v:Value}{cs:List Value}(h:w.rangeAt b o cs)(hn:n<o\/o+cs.length<=n):(w.setCell (U b n) v).rangeAt b o cs:=fun j u hu=>by
  have hj:=(yG.1 hu).1;rw[yL _ _ _ _ (eu (by omega))];exact h j u hu
theorem set_range_in {w:World}{b o j0:Nat}{v:Value}{cs:List Value}(h:w.rangeAt b o cs)(hj0:j0<cs.length):(w.setCell (U b (o+j0)) v).rangeAt b o (cs.set j0 v):=fun j u hu=>by
  by_cases hj:j=j0
  · subst hj;rw[List.getElem?_set_self hj0] at hu;obtain rfl:=Option.some.inj hu;exact yM _ _ _ (h j _ (yH hj0))
  · rw[yW (fun e=>hj e.symm)] at hu;rw[yL _ _ _ _ (eu (by omega))];exact h j u hu
theorem fy {w:World}{b o n:Nat}{v u:Value}(h:w.cell? (U b o)=some u)(hn:o≠n):(w.setCell (U b n) v).cell? (U b o)=some u:=by
  rw[yL _ _ _ _ (eu (by omega))];exact h
theorem Nd.len (n:Nd):n.vs.length=8:=rfl
theorem Qo.len (n:Qo):n.vs.length=7:=rfl
theorem tm_root {w:World}{b:Nat}{S:TS}{T:TypeId}(h:TM T w b S)(n:Nat):TM T (w.setCell (U b 0) (H n)) b { S with root:=n }:=
  ⟨yM _ _ _ h.root,fy h.lc (by omega),fun i hi=>ge (h.nd i hi) (by omega),fy h.oc (by omega),fun i hi=>ge (h.qo i hi) (by omega),fun o=>by rw[World.frozen?_setCell];exact h.fr o,gP h.obj⟩
theorem tm_lc {w:World}{b:Nat}{S:TS}{T:TypeId}(h:TM T w b S)(n:Nat):TM T (w.setCell (U b 1) (H n)) b { S with lc:=n }:=
  ⟨fy h.root (by omega),yM _ _ _ h.lc,fun i hi=>ge (h.nd i hi) (by omega),fy h.oc (by omega),fun i hi=>ge (h.qo i hi) (by omega),fun o=>by rw[World.frozen?_setCell];exact h.fr o,gP h.obj⟩
theorem tm_oc {w:World}{b:Nat}{S:TS}{T:TypeId}(h:TM T w b S)(n:Nat):TM T (w.setCell (U b 170) (H n)) b { S with oc:=n }:=
  ⟨fy h.root (by omega),fy h.lc (by omega),fun i hi=>ge (h.nd i hi) (by rw[Nd.len];omega),yM _ _ _ h.oc,fun i hi=>ge (h.qo i hi) (by omega),fun o=>by rw[World.frozen?_setCell];exact h.fr o,gP h.obj⟩
theorem ei {w:World}{b:Nat}{S:TS}{T:TypeId}(h:TM T w b S)(i0 j0:Nat)(vA:i0<21)(hj0:j0<8)(v:Value)(n':Nd)(hn:n'.vs=(S.nd i0).vs.set j0 v)(o:Nat)(K:o=2+i0*8+j0) :
    TM T (w.setCell (U b o) v) b { S with nd:=upd S.nd i0 n' }:=by
  subst K;refine⟨fy h.root (by omega),fy h.lc (by omega),fun i hi=>?_,fy h.oc (by omega),fun i hi=>ge (h.qo i hi) (by omega),fun o=>by rw[World.frozen?_setCell];exact h.fr o,gP h.obj⟩
  by_cases hii:i=i0
  · subst hii;show World.rangeAt _ _ _ (upd S.nd i n' i).vs;rw[zr,hn];exact set_range_in (h.nd i hi) hj0
  · show World.rangeAt _ _ _ (upd S.nd i0 n' i).vs;rw[zn _ _ hii];exact ge (h.nd i hi) (by rw[Nd.len];omega)
theorem tm_qo {w:World}{b:Nat}{S:TS}{T:TypeId}(h:TM T w b S)(i0 j0:Nat)(vA:i0<21)(hj0:j0<7)(v:Value)(n':Qo)(hn:n'.vs=(S.qo i0).vs.set j0 v)(o:Nat)(K:o=171+i0*7+j0) :
    TM T (w.setCell (U b o) v) b { S with qo:=upd S.qo i0 n' }:=by
  subst K;refine⟨fy h.root (by omega),fy h.lc (by omega),fun i hi=>ge (h.nd i hi) (by rw[Nd.len];omega),fy h.oc (by omega),fun i hi=>?_,fun o=>by rw[World.frozen?_setCell];exact h.fr o,gP h.obj⟩
  by_cases hii:i=i0
  · subst hii;show World.rangeAt _ _ _ (upd S.qo i n' i).vs;rw[zr,hn];exact set_range_in (h.qo i hi) hj0
  · show World.rangeAt _ _ _ (upd S.qo i0 n' i).vs;rw[zn _ _ hii];exact ge (h.qo i hi) (by rw[Qo.len];omega)
theorem zS {w:World}{b o:Nat}{n:Nd}(h:w.rangeAt b o n.vs) :
    w.cell? (U b o)=some (H n.side)/\w.cell? (U b (o+1))=some (H n.ticks)/\w.cell? (U b (o+2))=some (H n.qty)/\w.cell? (U b (o+3))=some (H n.count) /\
    w.cell? (U b (o+4))=some (H n.be)/\w.cell? (U b (o+5))=some (H n.wo)/\w.cell? (U b (o+6))=some (H n.el)/\w.cell? (U b (o+7))=some (H n.yo):=
  ⟨h 0 _ rfl,h 1 _ rfl,h 2 _ rfl,h 3 _ rfl,h 4 _ rfl,h 5 _ rfl,h 6 _ rfl,h 7 _ rfl⟩
theorem iG {w:World}{b o:Nat}{n:Qo}(h:w.rangeAt b o n.vs) :
    w.cell? (U b o)=some (H n.od.id)/\w.cell? (U b (o+1))=some (H n.od.side)/\w.cell? (U b (o+2))=some (H n.od.ticks)/\w.cell? (U b (o+3))=some (H n.od.left) /\
    w.cell? (U b (o+4))=some (H n.od.life)/\w.cell? (U b (o+5))=some (yk n.od.tag)/\w.cell? (U b (o+6))=some (H n.yg):=
  ⟨h 0 _ rfl,h 1 _ rfl,h 2 _ rfl,h 3 _ rfl,h 4 _ rfl,h 5 _ rfl,h 6 _ rfl⟩
theorem zM {w:World}{b o:Nat}{n:Od}(h:w.rangeAt b o n.vs) :
    w.cell? (U b o)=some (H n.id)/\w.cell? (U b (o+1))=some (H n.side)/\w.cell? (U b (o+2))=some (H n.ticks)/\w.cell? (U b (o+3))=some (H n.left) /\
    w.cell? (U b (o+4))=some (H n.life)/\w.cell? (U b (o+5))=some (yk n.tag):=
  ⟨h 0 _ rfl,h 1 _ rfl,h 2 _ rfl,h 3 _ rfl,h 4 _ rfl,h 5 _ rfl⟩
def Cur.off:Cur->Nat
  | .root=>0
  | .be h=>2+h*8+4
  | .wo h=>2+h*8+5
def Cur.ok:Cur->Prop
  | .root=>True
  | .be h=>h<21
  | .wo h=>h<21
theorem cur_cell {w:World}{b:Nat}{S:TS}{T:TypeId}(h:TM T w b S)(c:Cur)(hc:c.ok):w.cell? (U b c.off)=some (H (S.rd c)):=by
  cases c with
  | root=>exact h.root
  | be a=>exact(zS (h.nd a hc)).2.2.2.2.1
  | wo a=>exact(zS (h.nd a hc)).2.2.2.2.2.1
theorem tm_cur {w:World}{b:Nat}{S:TS}{T:TypeId}(h:TM T w b S)(c:Cur)(hc:c.ok)(n:Nat):TM T (w.setCell (U b c.off) (H n)) b (S.wr n c):=by
  cases c with
  | root=>exact tm_root h n
  | be a=>exact ei h a 4 hc (by omega) (H n) { S.nd a with be:=n } rfl _ rfl
  | wo a=>exact ei h a 5 hc (by omega) (H n) { S.nd a with wo:=n } rfl _ rfl
theorem gB {α:Type}(f:Nat->α)(i:Nat)(x y:α):upd (upd f i x) i y=upd f i y:=by
  funext j;simp only[upd];split <;> rfl
theorem zo (w:World)(cs:List Value)(t:TypeId):(w.alloc (Obj.cells cs.toArray t)).rangeAt w.heap.size 0 cs:=fun j u h=>by
  rw[cell_of_row _ w.heap.size (0+j) cs.toArray t (0,0) (heap_alloc_new w _)];simpa using h
theorem zh (w:World)(o:Obj):(w.alloc o).heap.size=w.heap.size+1:=by simp
theorem gr_drew {a w:World}{G:Option Nat}(h:a.grownBy w G):a.grownBy w.drew G:=⟨h.os,h.tape,h.output,h.size,h.block⟩
theorem eA {P:Program}{ops:Array Oper}{C:World->Prop}{yc:Act->Prop}{a:Act}{o:Oper}{rest:List Oper}{v:Value}(D:Region.wanted o (yielded ops a.tmps)=true)(E:∀w',C w'->o.quietAt P a C w' v)
    (h3:∀ho:Act->Prop,(∀a,wpQuiet P ops C yc rest a->ho a)->ho (a.put o.dst v)):wpQuiet P ops C yc (o::rest) a:=
  wpQuiet_step fun ho hK=>by rw[if_pos D];exact⟨v,E,h3 ho hK⟩
theorem iq {P:Program}{id:Nat}{yc:Exit->Act->World->Prop}{a:Act}{w W:World}{l:List Oper}(hm:P.follows .mixedOrders=true)(hB:Region.lexB .any l.toArray=true)(M:W.grownBy w none)
    (h:wpQuiet P l.toArray (fun w'=>W.grownBy w' none) (fun a'=>∀w',W.grownBy w' none->yc .normal a' w') l a):(Code.region id l.toArray true).wp P yc a w:=
  wp_region_quiet (C:=fun w'=>W.grownBy w' none) hm hB ⟨M.os,M.tape,M.output,M.size,M.block⟩ (by simpa using h)
theorem zU {a w:World}{b:Nat}(h:a.grownBy w (some b))(o:Nat)(v:Value):a.grownBy (w.setCell (U b o) v) (some b):=
  ⟨h.os,h.tape,h.output,by rw[World.setCell];simpa using h.size,fun k X xy=>(yS w _ _ k (fun e=>xy (by rw[e]))).trans (h.block k X xy)⟩
theorem grow_eq (S:TS)(cu:Cur)(o:Od)(m:Nat)(hm:m=S.lc+1) :
    ({ root:=({ S with lc:=m }.wr m cu).root,lc:=({ S with lc:=m }.wr m cu).lc,oc:=({ S with lc:=m }.wr m cu).oc,
       nd:=upd ({ S with lc:=m }.wr m cu).nd m { (({ S with lc:=m }.wr m cu).nd m) with side:=o.side,ticks:=o.ticks,qty:=0,count:=0 },qo:=({ S with lc:=m }.wr m cu).qo }:TS)=S.grow cu o.side o.ticks:=by
  subst hm;cases cu <;> rfl
def LFI (s:Bool)(b:Nat)(S:TS)(t:Tr)(kk:Int)(W:World)(k:Nat)(p:Value)(wr:World):Prop:=
  ∃c u,p=xj b ((dJ c).off)/\u.hs.length<=k/\Way s S t kk c u/\W.grownBy wr none
def LFEnd (s:Bool)(T:TypeId)(b:Nat)(S:TS)(t:Tr)(o:Od)(w:World)(h:Nat)(w':World):Prop:=
  ∃(S':TS),TM T w' b S'/\w.grownBy w' (some b) /\
    ((h∈t.hs/\(S.nd h).ticks=o.ticks/\S'=S)\/(∃c u,Way s S t o.ticks c u/\S.rd (dJ c)=0/\h=S.lc+1/\S'=S.grow (dJ c) o.side o.ticks))
theorem cur_ok {s:Bool}{S:TS}{t:Tr}{k:Int}{c:Ctx}{u:Tr}(hi:TI s S t)(h:Way s S t k c u)(jC:S.lc<20):(dJ c).ok:=by
  have hm:∀a∈cl c++cr c,a<21:=fun a ha=>by
    have:=hi.range a (by rw[h.plug,gQ];simp at ha |-;rcases ha with h|h <;> simp[h]);omega
  match c,hm with
  | [],_=>trivial
  | (true,a,r)::c,hm=>exact hm a (by simp[cr])
  | (false,a,l)::c,hm=>exact hm a (by simp[cl])
theorem tm_put {w:World}{b:Nat}{S:TS}{T:TypeId}(h:TM T w b S)(i:Nat)(hi:i<21)(o:Od) :
    TM T (((((((w.setCell (U b (171+i*7)) (H o.id)).setCell (U b (171+i*7+1)) (H o.side)).setCell (U b (171+i*7+2)) (H o.ticks)).setCell (U b (171+i*7+3)) (H o.left)).setCell
      (U b (171+i*7+4)) (H o.life)).setCell (U b (171+i*7+5)) (yk o.tag)).setCell (U b (171+i*7+6)) (H 0)) b { S with qo:=upd S.qo i ⟨o,0⟩ }:=by
  have h0:=tm_qo h i 0 hi (by omega) (H o.id) { (TS.qo _ i) with od:={ (TS.qo _ i).od with id:=o.id } } rfl _ rfl;have D:=tm_qo h0 i 1 hi (by omega) (H o.side) { (TS.qo _ i) with od:={ (TS.qo _ i).od with side:=o.side } } rfl _ rfl;have E:=tm_qo D i 2 hi (by omega) (H o.ticks) { (TS.qo _ i) with od:={ (TS.qo _ i).od with ticks:=o.ticks } } rfl _ rfl;have h3:=tm_qo E i 3 hi (by omega) (H o.left) { (TS.qo _ i) with od:={ (TS.qo _ i).od with left:=o.left } } rfl _ rfl;have h4:=tm_qo h3 i 4 hi (by omega) (H o.life) { (TS.qo _ i) with od:={ (TS.qo _ i).od with life:=o.life } } rfl _ rfl;have h5:=tm_qo h4 i 5 hi (by omega) (yk o.tag) { (TS.qo _ i) with od:={ (TS.qo _ i).od with tag:=o.tag } } rfl _ rfl;have h6:=tm_qo h5 i 6 hi (by omega) (H 0) { (TS.qo _ i) with yg:=0 } rfl _ rfl;simp only[gB,zr] at h6;exact h6
theorem gr_put {w:World}{b:Nat}(o:Od)(i:Nat) :
    w.grownBy (((((((w.setCell (U b (171+i*7)) (H o.id)).setCell (U b (171+i*7+1)) (H o.side)).setCell (U b (171+i*7+2)) (H o.ticks)).setCell (U b (171+i*7+3)) (H o.left)).setCell
      (U b (171+i*7+4)) (H o.life)).setCell (U b (171+i*7+5)) (yk o.tag)).setCell (U b (171+i*7+6)) (H 0)) (some b):=
  zU (zU (zU (zU (zU (zU (zU (yR _ _) _ _) _ _) _ _) _ _) _ _) _ _) _ _
theorem lf_lt {s:Bool}{T:TypeId}{b:Nat}{S:TS}{t:Tr}{o:Od}{w w':World}{h:Nat}(he:LFEnd s T b S t o w h w')(hi:TI s S t)(jC:S.lc<20):(h:Int)<21:=by
  obtain⟨S',_,_,⟨D,_,_⟩|⟨c,u,_,_,D,_⟩⟩:=he
  · have:=(hi.range h D).2;omega
  · omega
theorem link_eq0 (S:TS)(h m:Nat)(lf:Int)(hy:(S.nd h).yo=0) :
    ({ S with nd:=upd S.nd h { (S.nd h) with qty:=(S.nd h).qty+lf,count:=(S.nd h).count+1,el:=m,yo:=m } }:TS)=S.link h m lf:=by
  simp[TS.link,hy]
theorem link_eq1 (S:TS)(h m:Nat)(lf:Int)(hy:¬ (S.nd h).yo=0) :
    ({ S with nd:=upd S.nd h { (S.nd h) with qty:=(S.nd h).qty+lf,count:=(S.nd h).count+1,yo:=m },qo:=upd S.qo (S.nd h).yo { S.qo (S.nd h).yo with yg:=m } }:TS)=S.link h m lf:=by
  simp[TS.link,hy]
theorem gg {a w w':World}{G:Option Nat}(h:a.grownBy w G)(D:w'.os=w.os)(E:w'.tape=w.tape)(h3:w'.output=w.output)(h4:w'.heap=w.heap):a.grownBy w' G:=
  ⟨D.trans h.os,E.trans h.tape,h3.trans h.output,by rw[h4];exact h.size,fun k X xy=>by rw[h4];exact h.block k X xy⟩
def dQ (T:TypeId)(s:Bool)(w:World)(b:Nat)(sd:Int)(seq:List Od):Prop:=∃S t,TM T w b S/\TI s S t/\QI S t sd seq/\S.lc<=seq.length
theorem tm_zero (w:World)(za:Array Value)(T:TypeId)(h0:za[0]? = some (H 0))(D:za[1]? = some (H 0))(E:∀i,i<21->(za.toList.drop (2+i*8)).take 8=zNd.vs)(h3:za[170]? = some (H 0))(h4:∀i,i<21->(za.toList.drop (171+i*7)).take 7=zQo.vs) :
    TM T (w.alloc (Obj.cells za T)) w.heap.size zTS:=by
  have hh:=heap_alloc_new w (Obj.cells za T);have xp:∀o,(w.alloc (Obj.cells za T)).cell? (yq w o)=za[o]?:=fun o=>cell_of_row _ w.heap.size o za T (0,0) hh
  have xS:∀(o n:Nat) (cs:List Value),(za.toList.drop o).take n=cs->(w.alloc (Obj.cells za T)).rangeAt w.heap.size o cs:=fun o n cs bz j v hv=>by
    rw[xp,<- hv,<- bz,List.getElem?_take,List.getElem?_drop,Array.getElem?_toList];rw[<- bz,List.getElem?_take] at hv;split
    · rfl
    · next hj=>rw[if_neg hj] at hv;cases hv
  exact⟨(xp 0).trans h0,(xp 1).trans D,fun i hi=>xS _ 8 _ (E i hi),(xp 170).trans h3,fun i hi=>xS _ 7 _ (h4 i hi),fun o=>by simp only[World.frozen?,hh];simp,za,hh⟩
theorem zH {T:TypeId}{s:Bool}{w w':World}{b:Nat}{sd:Int}{seq:List Od}(h:dQ T s w b sd seq)(A:w'.heap[b]? = w.heap[b]?):dQ T s w' b sd seq:=by
  obtain⟨S,t,D,E⟩:=h;exact⟨S,t,eH D A,E⟩
theorem zZ {T:TypeId}{s:Bool}{w:World}{b:Nat}{sd:Int}{seq:List Od}(h:dQ T s w b sd seq):b<w.heap.size:=by
  obtain⟨S,t,D,_⟩:=h;exact tm_lt D
theorem sumL_bound:∀l:List Od,(∀o∈l,0<=o.left/\o.left<=1000000)->0<=sumQ l/\sumQ l<=1000000*l.length
  | [],_=>by simp[sumQ]
  | a::l,h=>by
    have D:=h a (by simp);have E:=sumL_bound l (fun o K=>h o (by simp[K]));simp only[sumQ,List.length_cons];omega
end Go.Proofs.YtbghmldggahjiaaGreatDoor
