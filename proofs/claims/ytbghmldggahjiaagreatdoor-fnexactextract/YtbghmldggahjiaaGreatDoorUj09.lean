/-.-/
import Derived.Test.YtbghmldggahjiaaGreatDoorUj08
set_option linter.unusedVariables false
set_option maxHeartbeats 6400000
set_option maxRecDepth 100000
namespace Go.Proofs.YtbghmldggahjiaaGreatDoor
open Go.RowKit
def qsF (k:Int):Nat->List Od->List Nat
  | _,[]=>[]
  | n,o::r=>if o.ticks=k then n::qsF k (n+1) r else qsF k (n+1) r
theorem qsF_snoc (k:Int)(o:Od):∀(l:List Od) (n:Nat),qsF k n (l ++ [o])=qsF k n l++(if o.ticks=k then[n+l.length] else[])
  | [],n=>by simp[qsF]
  | a::l,n=>by
    rw[List.cons_append,qsF,qsF_snoc k o l,qsF];have:n+1+l.length=n+(a::l).length:=by simp;omega
    rw[this];split <;> simp
theorem fD (k:Int):∀(l:List Od) (n a:Nat),a∈qsF k n l->n<=a/\a<n+l.length/\∃o,l[a-n]? = some o/\o.ticks=k
  | [],n,a,h=>by simp[qsF] at h
  | b::l,n,a,h=>by
    rw[qsF] at h;split at h
    · next A =>
      rcases List.mem_cons.1 h with rfl|h
      · exact⟨Nat.le_refl _,by simp,b,by simp,A⟩
      · obtain⟨D,E,o,h3,h4⟩:=fD k l (n+1) a h;refine⟨by omega,by simp;omega,o,?_,h4⟩;rw[show a-n=(a-(n+1))+1 by omega];simpa using h3
    · obtain⟨D,E,o,h3,h4⟩:=fD k l (n+1) a h;refine⟨by omega,by simp;omega,o,?_,h4⟩;rw[show a-n=(a-(n+1))+1 by omega];simpa using h3
theorem qsF_nodup (k:Int):∀(l:List Od) (n:Nat),(qsF k n l).Nodup
  | [],n=>by simp[qsF]
  | b::l,n=>by
    rw[qsF];split
    · exact List.nodup_cons.2 ⟨fun h=>by have:=(fD k l (n+1) n h).1;omega,qsF_nodup k l _⟩
    · exact qsF_nodup k l _
theorem qsF_nil (k:Int):∀(l:List Od) (n:Nat),(∀o∈l,o.ticks≠k)->qsF k n l = []
  | [],_,_=>rfl
  | b::l,n,h=>by rw[qsF,if_neg (h b (by simp)),qsF_nil k l _ (fun o K=>h o (by simp[K]))]
theorem qsF_map (k:Int)(f:Nat->Od):∀(l:List Od) (n:Nat),(∀i o,l[i]? = some o->f (n+i)=o)->(qsF k n l).map f=l.filter (fun o=>decide (o.ticks=k))
  | [],_,_=>rfl
  | b::l,n,h=>by
    have ih:=qsF_map k f l (n+1) (fun i o K=>by rw[show n+1+i=n+(i+1) by omega];exact h (i+1) o (by simpa using K));have h0:f n=b:=h 0 b (by simp);rw[qsF,List.filter_cons]
    by_cases A:b.ticks=k
    · simp[A,ih,h0]
    · simp[A,ih]
def qs (seq:List Od)(k:Int):List Nat:=qsF k 1 seq
def atK (seq:List Od)(k:Int):List Od:=seq.filter (fun o=>decide (o.ticks=k))
def sumQ:List Od->Int
  | []=>0
  | o::r=>o.left+sumQ r
theorem sumQ_snoc (o:Od):∀l:List Od,sumQ (l ++ [o])=sumQ l+o.left
  | []=>by simp[sumQ]
  | a::l=>by rw[List.cons_append,sumQ,sumQ_snoc o l,sumQ];omega
def Chain (yg:Nat->Nat):Nat->List Nat->Prop
  | v,[]=>v=0
  | v,a::r=>v=a/\0<a/\Chain yg (yg a) r
theorem iQ {y y':Nat->Nat}:∀ {l:List Nat} {v:Nat},(∀a∈l,y' a=y a)->Chain y v l->Chain y' v l
  | [],_,_,h=>h
  | a::r,v,hc,⟨D,E,h3⟩=>⟨D,E,by rw[hc a (by simp)];exact iQ (fun b A=>hc b (by simp[A])) h3⟩
theorem chain_snoc {y:Nat->Nat}{n z:Nat}(hn:0<n)(hy:y n=0):∀ {l:List Nat} {v:Nat},Chain y v l->l.Nodup->l.getLast? = some z->n ∉ l->Chain (upd y z n) v (l ++ [n])
  | [],_,_,_,hz,_=>by simp at hz
  | [a],v,⟨D,E,h3⟩,_,hz,xy=>by
    simp at hz;subst hz;have hna:n≠a:=fun e=>xy (by simp[e]);exact⟨D,E,by rw[zr],hn,by rw[zn _ _ hna,hy];rfl⟩
  | a::b::r,v,⟨D,E,h3⟩,hd,hz,xy=>by
    have hd':=List.nodup_cons.1 hd;have hz':(b::r).getLast? = some z:=by rw[List.getLast?_cons_cons] at hz;exact hz
    have hza:a≠z:=fun e=>hd'.1 (e ▸ List.mem_of_getLast? hz');refine⟨D,E,?_⟩;rw[zn _ _ hza];exact chain_snoc hn hy h3 hd'.2 hz' (fun h=>xy (by simp[h]))
structure QH (S:TS) (sd:Int) (seq:List Od) (h:Nat):Prop where
  side:(S.nd h).side=sd
  ne:qs seq (S.nd h).ticks ≠ []
  chain:Chain (fun i=>(S.qo i).yg) (S.nd h).el (qs seq (S.nd h).ticks)
  last:(qs seq (S.nd h).ticks).getLast? = some (S.nd h).yo
  qty:(S.nd h).qty=sumQ (atK seq (S.nd h).ticks)
  cnt:(S.nd h).count=(atK seq (S.nd h).ticks).length
structure QI (S:TS) (t:Tr) (sd:Int) (seq:List Od):Prop where
  oc:S.oc=seq.length
  od:∀i o,seq[i]? = some o->(S.qo (1+i)).od=o
  fresh:∀i,S.oc<i->S.qo i=zQo
  q:∀h∈t.hs,QH S sd seq h
  cover:∀o∈seq,∃h∈t.hs,(S.nd h).ticks=o.ticks
theorem ti_zero (s:Bool):TI s zTS .nil:=⟨rfl,by simp[Tr.hs],by simp[Tr.hs],rfl,by simp[Tr.hs],fun _ _=>rfl⟩
theorem qi_zero (sd:Int):QI zTS .nil sd []:=⟨rfl,by simp,fun _ _=>rfl,by simp[Tr.hs],by simp⟩
def TS.lay (S:TS)(o:Od):TS:={ S with oc:=S.oc+1,qo:=upd S.qo (S.oc+1) ⟨o,0⟩ }
def TS.link (S:TS)(h n:Nat)(lf:Int):TS:=
  { S with nd:=upd S.nd h { S.nd h with el:=if (S.nd h).yo=0 then n else(S.nd h).el,yo:=n,qty:=(S.nd h).qty+lf,count:=(S.nd h).count+1 },
           qo:=if (S.nd h).yo=0 then S.qo else upd S.qo (S.nd h).yo { S.qo (S.nd h).yo with yg:=n } }
theorem ti_lay {s:Bool}{S:TS}{t:Tr}(o:Od)(h:TI s S t):TI s (S.lay o) t:=⟨h.rep,h.nodup,h.range,h.len,h.sorted,h.fresh⟩
theorem lw (S:TS)(h n:Nat)(lf:Int)(a:Nat):((S.link h n lf).nd a).ticks=(S.nd a).ticks:=by
  simp only[TS.link,upd];split <;> simp_all
theorem link_tree (S:TS)(h n:Nat)(lf:Int)(a:Nat):((S.link h n lf).nd a).be=(S.nd a).be/\((S.link h n lf).nd a).wo=(S.nd a).wo:=by
  simp only[TS.link,upd];split <;> simp_all
theorem ti_link {s:Bool}{S:TS}{t:Tr}{h:Nat}(n:Nat)(lf:Int)(hi:TI s S t)(hh:h∈t.hs):TI s (S.link h n lf) t:=by
  refine⟨ia (fun a _=>link_tree S h n lf a) hi.rep,hi.nodup,hi.range,hi.len,hi.sorted.imp fun {a b} hab=>?_,fun a ha=>?_⟩
  · rw[lw,lw];exact hab
  · have D:=(hi.range h hh).2;have E:S.lc<a:=ha;show upd _ _ _ _ = _;rw[zn _ _ (by omega)];exact hi.fresh a ha
theorem lF {y:Nat->Nat}:∀ {l:List Nat} {v z:Nat},Chain y v l->l.getLast? = some z->0<z
  | [],_,_,_,h=>by simp at h
  | [a],_,_,⟨_,E,_⟩,h=>by simp at h;omega
  | a::b::r,_,_,⟨_,_,h3⟩,h=>lF h3 (by rw[List.getLast?_cons_cons] at h;exact h)
theorem il (seq:List Od)(o:Od)(k:Int):qs (seq ++ [o]) k=qs seq k++(if o.ticks=k then[1+seq.length] else[]):=qsF_snoc k o seq 1
theorem atK_snoc (seq:List Od)(o:Od)(k:Int):atK (seq ++ [o]) k=atK seq k++(if o.ticks=k then[o] else[]):=by
  unfold atK;rw[List.filter_append];congr 1
  by_cases h:o.ticks=k <;> simp[h]
theorem qi_link {s:Bool}{S:TS}{t:Tr}{sd:Int}{seq:List Od}{o:Od}{h:Nat}(hi:TI s S t)(hoc:S.oc=seq.length+1)
    (hod:∀i o',(seq ++ [o])[i]? = some o'->(S.qo (1+i)).od=o') (qz:∀i,S.oc<i->S.qo i=zQo) (hyn:(S.qo (1+seq.length)).yg=0)
    (hq:∀a∈t.hs,a≠h->QH S sd seq a) (hcov:∀o∈seq,∃h∈t.hs,(S.nd h).ticks=o.ticks)
    (hh:h∈t.hs) (X:(S.nd h).ticks=o.ticks)
    (hH:QH S sd seq h\/((∀o'∈seq,o'.ticks≠o.ticks)/\S.nd h = { zNd with side:=sd,ticks:=o.ticks,be:=(S.nd h).be,wo:=(S.nd h).wo })) :
    QI (S.link h (1+seq.length) o.left) t sd (seq ++ [o]):=by
  have hqlt:∀k a,a∈qs seq k->a<1+seq.length/\0<a:=fun k a ha=>by
    obtain⟨D,E,_⟩:=fD k seq 1 a ha;omega
  have hyo:(S.nd h).yo=0\/(0<(S.nd h).yo/\(S.nd h).yo∈qs seq o.ticks):=by
    rcases hH with hH|⟨_,hz⟩
    · have:=hH.last;rw[X] at this;exact .inr ⟨lF hH.chain hH.last,List.mem_of_getLast? this⟩
    · rw[hz];exact .inl rfl
  have hodk:∀i,((S.link h (1+seq.length) o.left).qo i).od=(S.qo i).od:=fun i=>by
    simp only[TS.link];split
    · rfl
    · simp only[upd];split <;> simp_all
  refine⟨?_,fun i o' jd=>by rw[hodk];exact hod i o' jd,fun i jd=>?_,fun a ha=>?_,fun o' qF=>?_⟩
  · show S.oc = _;simp[hoc]
  · have jd:S.oc<i:=jd;simp only[TS.link];split
    · exact qz i jd
    · rcases hyo with h0|⟨h0,D⟩
      · contradiction
      · rw[zn _ _ (by have:=hqlt _ _ D;omega)];exact qz i jd
  · by_cases hah:a=h
    · subst hah;have hnd:(S.link a (1+seq.length) o.left).nd a = { S.nd a with el:=if (S.nd a).yo=0 then(1+seq.length) else(S.nd a).el,yo:=(1+seq.length),qty:=(S.nd a).qty+o.left,count:=(S.nd a).count+1 }:=zr _ _ _
      rcases hH with hH|⟨vZ,hz⟩
      · have ot:=lF hH.chain hH.last;have cG:(S.nd a).yo≠0:=by omega
        have hqq:(S.link a (1+seq.length) o.left).qo=upd S.qo (S.nd a).yo { S.qo (S.nd a).yo with yg:=(1+seq.length) }:=by simp[TS.link,cG]
        constructor
        · rw[hnd];exact hH.side
        · rw[hnd];show qs (seq ++ [o]) (S.nd a).ticks ≠ [];rw[il,if_pos X.symm];simp
        · rw[hnd];show Chain _ (if (S.nd a).yo=0 then(1+seq.length) else(S.nd a).el) (qs (seq ++ [o]) (S.nd a).ticks)
          rw[if_neg cG,il,if_pos X.symm];have hc:=chain_snoc (n:=1+seq.length) (by omega) hyn hH.chain (qsF_nodup _ _ _) hH.last (fun h=>by have:=(hqlt _ _ h).1;omega);refine iQ (fun b _=>?_) hc;rw[hqq];simp only[upd];split <;> simp_all
        · rw[hnd];show(qs (seq ++ [o]) (S.nd a).ticks).getLast? = some (1+seq.length);rw[il,if_pos X.symm];simp
        · rw[hnd];show(S.nd a).qty+o.left=sumQ (atK (seq ++ [o]) (S.nd a).ticks);rw[atK_snoc,if_pos X.symm,sumQ_snoc,hH.qty]
        · rw[hnd];show(S.nd a).count+1=((atK (seq ++ [o]) (S.nd a).ticks).length:Int);rw[atK_snoc,if_pos X.symm,hH.cnt];simp
      · have hyz:(S.nd a).yo=0:=by rw[hz];rfl
        have hqz:(S.nd a).qty=0:=by rw[hz];rfl
        have hcz:(S.nd a).count=0:=by rw[hz];rfl
        have uX:(S.nd a).side=sd:=by rw[hz]
        have hqn:qs seq (S.nd a).ticks = []:=by rw[X];exact qsF_nil _ _ _ vZ
        have han:atK seq (S.nd a).ticks = []:=by rw[X];unfold atK;rw[List.filter_eq_nil_iff];intro b A;simpa using vZ b A
        have hqq:(S.link a (1+seq.length) o.left).qo=S.qo:=by simp[TS.link,hyz]
        constructor
        · rw[hnd];exact uX
        · rw[hnd];show qs (seq ++ [o]) (S.nd a).ticks ≠ [];rw[il,if_pos X.symm];simp
        · rw[hnd];show Chain _ (if (S.nd a).yo=0 then(1+seq.length) else(S.nd a).el) (qs (seq ++ [o]) (S.nd a).ticks)
          rw[if_pos hyz,il,if_pos X.symm,hqn,hqq];exact⟨rfl,by omega,hyn⟩
        · rw[hnd];show(qs (seq ++ [o]) (S.nd a).ticks).getLast? = some (1+seq.length);rw[il,if_pos X.symm];simp
        · rw[hnd];show(S.nd a).qty+o.left=sumQ (atK (seq ++ [o]) (S.nd a).ticks);rw[atK_snoc,if_pos X.symm,sumQ_snoc,hqz,han];rfl
        · rw[hnd];show(S.nd a).count+1=((atK (seq ++ [o]) (S.nd a).ticks).length:Int);rw[atK_snoc,if_pos X.symm,hcz,han];simp
    · have hqa:=hq a ha hah;have hnd:(S.link h (1+seq.length) o.left).nd a=S.nd a:=zn _ _ hah
      have xy:¬ o.ticks=(S.nd a).ticks:=by
        intro e;have hp:=hi.sorted
        have:∀ {l:List Nat},l.Pairwise (fun a b=>bt s (S.nd a).ticks (S.nd b).ticks)->a∈l->h∈l->False:=by
          intro l
          induction l with
          | nil=>intro _ h;simp at h
          | cons x r ih =>
            intro hp D E;obtain⟨p1,p2⟩:=List.pairwise_cons.1 hp;rcases List.mem_cons.1 D with rfl|h1' <;> rcases List.mem_cons.1 E with E|h2'
            · exact hah E.symm
            · have:=p1 h h2';rw[X,e] at this;exact bt_irr _ _ this
            · subst E;have:=p1 a h1';rw[X,e] at this;exact bt_irr _ _ this
            · exact ih p2 h1' h2'
        exact this hp ha hh
      have hqs:qs (seq ++ [o]) (S.nd a).ticks=qs seq (S.nd a).ticks:=by rw[il,if_neg xy,List.append_nil]
      have hak:atK (seq ++ [o]) (S.nd a).ticks=atK seq (S.nd a).ticks:=by rw[atK_snoc,if_neg xy,List.append_nil]
      constructor
      · rw[hnd];exact hqa.side
      · rw[hnd,hqs];exact hqa.ne
      · rw[hnd,hqs];refine iQ (fun b A=>?_) hqa.chain;rcases hyo with h0|⟨h0,D⟩
        · simp[TS.link,h0]
        · have hbne:b≠(S.nd h).yo:=by
            rintro rfl;obtain⟨_,_,o1,e1,e2⟩:=fD _ _ _ _ A;obtain⟨_,_,o2,e3,e4⟩:=fD _ _ _ _ D;rw[e1] at e3;obtain rfl:=Option.some.inj e3;exact xy (e4.symm.trans e2)
          simp only[TS.link];split
          · rfl
          · rw[zn _ _ hbne]
      · rw[hnd,hqs];exact hqa.last
      · rw[hnd,hak];exact hqa.qty
      · rw[hnd,hak];exact hqa.cnt
  · rcases List.mem_append.1 qF with qF|qF
    · obtain⟨b,D,E⟩:=hcov o' qF;exact⟨b,D,by rw[lw];exact E⟩
    · simp at qF;subst qF;exact⟨h,hh,by rw[lw];exact X⟩
theorem add_found {s:Bool}{S:TS}{t:Tr}{sd:Int}{seq:List Od}{o:Od}{h:Nat}(hi:TI s S t)(hq:QI S t sd seq)(hh:h∈t.hs)(X:(S.nd h).ticks=o.ticks) :
    TI s ((S.lay o).link h (1+seq.length) o.left) t/\QI ((S.lay o).link h (1+seq.length) o.left) t sd (seq ++ [o]):=by
  have hqk:∀i,i≠1+seq.length->(S.lay o).qo i=S.qo i:=fun i jd=>zn _ _ (by rw[hq.oc];omega);have hqn:(S.lay o).qo (1+seq.length)=⟨o,0⟩:=by simp[TS.lay,upd,hq.oc];omega
  have hqh:∀a∈t.hs,QH (S.lay o) sd seq a:=fun a ha=>by
    have:=hq.q a ha;exact⟨this.side,this.ne,iQ (fun b A=>by rw[hqk b (by have:=(fD _ _ _ _ A).2.1;omega)]) this.chain,this.last,this.qty,this.cnt⟩
  refine⟨ti_link _ _ (ti_lay o hi) hh,qi_link (ti_lay o hi) (by show S.oc+1 = _;rw[hq.oc]) (fun i o' jd=>?_) (fun i jd=>?_) (by rw[hqn]) (fun a ha _=>hqh a ha) hq.cover hh X (.inl (hqh h hh))⟩
  · by_cases xH:i<seq.length
    · rw[List.getElem?_append_left xH] at jd;rw[hqk _ (by omega)];exact hq.od i o' jd
    · have hlt2:i<(seq ++ [o]).length:=(yG.1 jd).1;have:i=seq.length:=by simp at hlt2;omega
      subst this;simp at jd;subst jd;rw[hqn]
  · have jd:S.oc+1<i:=jd;rw[hqk _ (by rw[<- hq.oc];omega)];exact hq.fresh i (by omega)
theorem add_new {s:Bool}{S:TS}{t:Tr}{seq:List Od}{o:Od}{c:Ctx}{u:Tr}(hi:TI s S t)(hq:QI S t o.side seq)(hw:Way s (S.lay o) t o.ticks c u)(h0:(S.lay o).rd (dJ c)=0) :
    TI s (((S.lay o).grow (dJ c) o.side o.ticks).link (S.lc+1) (1+seq.length) o.left) (plug c (.node (S.lc+1) .nil .nil)) /\
    QI (((S.lay o).grow (dJ c) o.side o.ticks).link (S.lc+1) (1+seq.length) o.left) (plug c (.node (S.lc+1) .nil .nil)) o.side (seq ++ [o])/\(∀o'∈seq,o'.ticks≠o.ticks):=by
  obtain⟨M,ht,vZ⟩:=ti_grow (sd:=o.side) (ti_lay o hi) hw h0;have M:TI s ((S.lay o).grow (dJ c) o.side o.ticks) (plug c (.node (S.lc+1) .nil .nil)):=M;have hhs:(plug c (.node (S.lc+1) .nil .nil)).hs=cl c++(S.lc+1)::cr c:=by rw[gQ];simp[Tr.hs]
  have pZ:S.lc+1 ∉ cl c++cr c:=by
    rw[<- ht];intro hm;have:=(hi.range _ hm).2;omega
  have hqo:((S.lay o).grow (dJ c) o.side o.ticks).qo=(S.lay o).qo:=(wr_same (S.lay o) _ _).2.2;have hqk:∀i,i≠1+seq.length->(S.lay o).qo i=S.qo i:=fun i jd=>zn _ _ (by rw[hq.oc];omega);have hqn:(S.lay o).qo (1+seq.length)=⟨o,0⟩:=by simp[TS.lay,upd,hq.oc];omega
  have hag:∀b∈t.hs,((S.lay o).grow (dJ c) o.side o.ticks).nd b=((S.lay o).wr (S.lc+1) (dJ c)).nd b:=fun b A=>zn _ _ (fun e=>pZ (by rw[<- ht];exact e ▸ A))
  have vK:∀b,b∈(plug c (.node (S.lc+1) .nil .nil)).hs->b≠S.lc+1->b∈t.hs:=fun b A xy=>by
    rw[hhs] at A;rw[ht];simp only[List.mem_append,List.mem_cons] at A |-;rcases A with h|h|h
    · exact .inl h
    · exact absurd h xy
    · exact .inr h
  have hnos:∀o'∈seq,o'.ticks≠o.ticks:=fun o' qF e=>by
    obtain⟨b,D,E⟩:=hq.cover o' qF;exact vZ b D (E.trans e)
  have vf:S.lc+1∈(plug c (.node (S.lc+1) .nil .nil)).hs:=by rw[hhs];simp
  have hnd:((S.lay o).grow (dJ c) o.side o.ticks).nd (S.lc+1) = { zNd with side:=o.side,ticks:=o.ticks }:=by
    show upd _ _ _ _ = _
    have D:((S.lay o).wr (S.lc+1) (dJ c)).nd (S.lc+1)=zNd:=by
      rw[wr_nd_out (S.lay o) _ c _ pZ];exact hi.fresh _ (by omega)
    have E:(S.lay o).lc+1=S.lc+1:=rfl;rw[E,zr,D];rfl
  refine⟨ti_link _ _ M vf,qi_link M ?_ (fun i o' jd=>?_) (fun i jd=>?_) (by rw[hqo,hqn]) (fun a ha xy=>?_) (fun o' qF=>?_) vf (by rw[hnd]) (.inr ⟨hnos,by rw[hnd]⟩),hnos⟩
  · show((S.lay o).wr _ _).oc = _;rw[(wr_same (S.lay o) _ _).2.1];show S.oc+1 = _;rw[hq.oc]
  · rw[hqo]
    by_cases xH:i<seq.length
    · rw[List.getElem?_append_left xH] at jd;rw[hqk _ (by omega)];exact hq.od i o' jd
    · have hlt2:i<(seq ++ [o]).length:=(yG.1 jd).1;have:i=seq.length:=by simp at hlt2;omega
      subst this;simp at jd;subst jd;rw[hqn]
  · have jd:((S.lay o).wr (S.lc+1) (dJ c)).oc<i:=jd;rw[(wr_same (S.lay o) _ _).2.1] at jd;have jd:S.oc+1<i:=jd;rw[hqo,hqk _ (by rw[<- hq.oc];omega)];exact hq.fresh i (by omega)
  · have A:=vK a ha xy;have hQ:=hq.q a A;obtain⟨r1,r2,r3,r4,r5⟩:=wr_nd_rest (S.lay o) (S.lc+1) (dJ c) a;have r6:=lK (S.lay o) (S.lc+1) (dJ c) a;constructor
    · rw[hag a A,r1];exact hQ.side
    · rw[hag a A,r6];exact hQ.ne
    · rw[hag a A,r6,r4,hqo];exact iQ (fun b A=>by rw[hqk b (by have:=(fD _ _ _ _ A).2.1;omega)]) hQ.chain
    · rw[hag a A,r6,r5];exact hQ.last
    · rw[hag a A,r6,r2];exact hQ.qty
    · rw[hag a A,r6,r3];exact hQ.cnt
  · obtain⟨b,D,E⟩:=hq.cover o' qF;refine⟨b,?_,?_⟩
    · rw[hhs];rw[ht] at D;simp only[List.mem_append,List.mem_cons] at D |-;rcases D with h|h <;> simp[h]
    · rw[hag b D,lK];exact E
theorem add_ready {s:Bool}{S S3:TS}{t:Tr}{seq:List Od}{o:Od}{h:Nat}(hi:TI s S t)(hq:QI S t o.side seq)
    (hc:(h∈t.hs/\((S.lay o).nd h).ticks=o.ticks/\S3=S.lay o)\/(∃c u,Way s (S.lay o) t o.ticks c u/\(S.lay o).rd (dJ c)=0/\h=(S.lay o).lc+1/\S3=(S.lay o).grow (dJ c) o.side o.ticks)) :
    (S3.nd h).yo<1+seq.length/\(S3.nd h).qty=sumQ (atK seq o.ticks)/\(S3.nd h).count=(atK seq o.ticks).length/\S3.lc<=S.lc+1/\h<=S.lc+1 /\
      ∃t',TI s (S3.link h (1+seq.length) o.left) t'/\QI (S3.link h (1+seq.length) o.left) t' o.side (seq ++ [o]):=by
  rcases hc with⟨hh,X,rfl⟩|⟨c,u,hw,h0,rfl,rfl⟩
  · have hQ:=hq.q h hh;have hk':(S.nd h).ticks=o.ticks:=X;have hm:=List.mem_of_getLast? hQ.last;have hr:=hi.range h hh;refine⟨(fD _ _ _ _ hm).2.1,by rw[<- hk'];exact hQ.qty,by rw[<- hk'];exact hQ.cnt,Nat.le_succ _,by omega,t,?_⟩;exact add_found hi hq hh X
  · obtain⟨D,E,h3⟩:=add_new hi hq hw h0;obtain⟨M,ht,vZ⟩:=ti_grow (sd:=o.side) (ti_lay o hi) hw h0
    have pZ:S.lc+1 ∉ cl c++cr c:=by
      rw[<- ht];intro hm;have:=(hi.range _ hm).2;omega
    have hnd:((S.lay o).grow (dJ c) o.side o.ticks).nd (S.lc+1) = { zNd with side:=o.side,ticks:=o.ticks }:=by
      show upd _ _ _ _ = _
      have D:((S.lay o).wr (S.lc+1) (dJ c)).nd (S.lc+1)=zNd:=by
        rw[wr_nd_out (S.lay o) _ c _ pZ];exact hi.fresh _ (by omega)
      have E:(S.lay o).lc+1=S.lc+1:=rfl;rw[E,zr,D];rfl
    have jC:(S.lay o).lc+1=S.lc+1:=rfl;have hak:atK seq o.ticks = []:=by unfold atK;rw[List.filter_eq_nil_iff];intro b A;simpa using h3 b A
    rw[jC,hnd,hak];exact⟨by show 0 < _;omega,rfl,rfl,Nat.le_refl _,Nat.le_refl _,_,D,E⟩
end Go.Proofs.YtbghmldggahjiaaGreatDoor
