/-.-/
import Derived.Test.YtbghmldggahjiaaGreatDoorUj01
set_option linter.unusedVariables false
set_option maxHeartbeats 6400000
set_option maxRecDepth 100000
namespace Go.Proofs.YtbghmldggahjiaaGreatDoor
open Go.RowKit
structure Od where
  id:Int
  side:Int
  ticks:Int
  left:Int
  life:Int
  tag:ByteArray
structure Nd where
  side:Int
  ticks:Int
  qty:Int
  count:Int
  be:Nat
  wo:Nat
  el:Nat
  yo:Nat
structure Qo where
  od:Od
  yg:Nat
structure TS where
  root:Nat
  lc:Nat
  oc:Nat
  nd:Nat->Nd
  qo:Nat->Qo
inductive Tr where
  | nil:Tr
  | node (h:Nat) (l r:Tr):Tr
def zOd:Od:=⟨0,0,0,0,0,⟨#[]⟩⟩
def zNd:Nd:=⟨0,0,0,0,0,0,0,0⟩
def zQo:Qo:=⟨zOd,0⟩
def zTS:TS:=⟨0,0,0,fun _=>zNd,fun _=>zQo⟩
def bt:Bool->Int->Int->Prop
  | true,a,b=>b<a
  | false,a,b=>a<b
theorem bt_irr (s:Bool)(a:Int):¬ bt s a a:=by cases s <;> simp[bt]
theorem bt_trans {s:Bool}{a b c:Int}(D:bt s a b)(E:bt s b c):bt s a c:=by cases s <;> simp only[bt] at * <;> omega
theorem bt_total (s:Bool)(a b:Int):bt s a b\/a=b\/bt s b a:=by cases s <;> simp only[bt] <;> omega
theorem bt_asymm {s:Bool}{a b:Int}(D:bt s a b):¬ bt s b a:=by cases s <;> simp only[bt] at * <;> omega
instance (s:Bool) (a b:Int):Decidable (bt s a b):=by cases s <;> (unfold bt;infer_instance)
def Tr.hs:Tr->List Nat
  | .nil=>[]
  | .node h l r=>l.hs++h::r.hs
def Rep (nd:Nat->Nd):Tr->Nat->Prop
  | .nil,v=>v=0
  | .node h l r,v=>v=h/\0<h/\Rep nd l (nd h).be/\Rep nd r (nd h).wo
theorem ia {nd nd':Nat->Nd}:∀ {t:Tr} {v:Nat},(∀h∈t.hs,(nd' h).be=(nd h).be/\(nd' h).wo=(nd h).wo)->Rep nd t v->Rep nd' t v
  | .nil,_,_,h=>h
  | .node h l r,v,hc,⟨D,E,h3,h4⟩=>by
    have hh:=hc h (by simp[Tr.hs]);refine⟨D,E,?_,?_⟩
    · rw[hh.1];exact ia (fun a ha=>hc a (by simp[Tr.hs,ha])) h3
    · rw[hh.2];exact ia (fun a ha=>hc a (by simp[Tr.hs,ha])) h4
theorem rep_nil {nd:Nat->Nd}{t:Tr}(h:Rep nd t 0):t = .nil:=by
  cases t with
  | nil=>rfl
  | node a l r=>obtain⟨D,E,_⟩:=h;omega
theorem rep_node {nd:Nat->Nd}{t:Tr}{v:Nat}(h:Rep nd t v)(hv:v≠0):∃l r,t = .node v l r/\Rep nd l (nd v).be/\Rep nd r (nd v).wo:=by
  cases t with
  | nil=>exact absurd h hv
  | node a l r=>obtain⟨rfl,_,h3,h4⟩:=h;exact⟨l,r,rfl,h3,h4⟩
inductive Cur where
  | root:Cur
  | be (h:Nat):Cur
  | wo (h:Nat):Cur
def TS.rd (S:TS):Cur->Nat
  | .root=>S.root
  | .be h=>(S.nd h).be
  | .wo h=>(S.nd h).wo
def upd {α:Type}(f:Nat->α)(i:Nat)(x:α):Nat->α:=fun j=>if j=i then x else f j
theorem zr {α:Type}(f:Nat->α)(i:Nat)(x:α):upd f i x i=x:=by simp[upd]
theorem zn {α:Type}(f:Nat->α){i j:Nat}(x:α)(h:j≠i):upd f i x j=f j:=by simp[upd,h]
def TS.wr (S:TS)(n:Nat):Cur->TS
  | .root=>{ S with root:=n }
  | .be h=>{ S with nd:=upd S.nd h { S.nd h with be:=n } }
  | .wo h=>{ S with nd:=upd S.nd h { S.nd h with wo:=n } }
abbrev Ctx:=List (Bool × Nat × Tr)
def plug:Ctx->Tr->Tr
  | [],s=>s
  | (true,h,r)::c,s=>plug c (.node h s r)
  | (false,h,l)::c,s=>plug c (.node h l s)
def dJ:Ctx->Cur
  | []=>.root
  | (true,h,_) :: _=>.be h
  | (false,h,_) :: _=>.wo h
def cl:Ctx->List Nat
  | []=>[]
  | (true,_,_)::c=>cl c
  | (false,h,l)::c=>cl c++(l.hs ++ [h])
def cr:Ctx->List Nat
  | []=>[]
  | (true,h,r)::c=>h::r.hs++cr c
  | (false,_,_)::c=>cr c
theorem gQ:∀(c:Ctx) (s:Tr),(plug c s).hs=cl c++(s.hs++cr c)
  | [],s=>by simp[plug,cl,cr]
  | (true,h,r)::c,s=>by rw[plug,gQ c];simp[Tr.hs,cl,cr]
  | (false,h,l)::c,s=>by rw[plug,gQ c];simp[Tr.hs,cl,cr]
def RepC (nd:Nat->Nd):Ctx->Nat->Nat->Prop
  | [],root,v=>v=root
  | (true,h,r)::c,root,v=>v=(nd h).be/\0<h/\Rep nd r (nd h).wo/\RepC nd c root h
  | (false,h,l)::c,root,v=>v=(nd h).wo/\0<h/\Rep nd l (nd h).be/\RepC nd c root h
theorem rep_plug {nd:Nat->Nd}{root:Nat}:∀(c:Ctx) (s:Tr) (v:Nat),RepC nd c root v->Rep nd s v->Rep nd (plug c s) root
  | [],s,v,h,hs=>by rw[<- h];exact hs
  | (true,a,r)::c,s,v,⟨D,E,h3,h4⟩,hs=>rep_plug c (.node a s r) a h4 ⟨rfl,E,D ▸ hs,h3⟩
  | (false,a,l)::c,s,v,⟨D,E,h3,h4⟩,hs=>rep_plug c (.node a l s) a h4 ⟨rfl,E,h3,D ▸ hs⟩
theorem iV {nd nd':Nat->Nd}:∀ {c:Ctx} {root v:Nat},(∀h∈cl c++cr c,(nd' h).be=(nd h).be/\(nd' h).wo=(nd h).wo)->RepC nd c root v->RepC nd' c root v
  | [],_,_,_,h=>h
  | (true,a,r)::c,root,v,hc,⟨D,E,h3,h4⟩=>by
    have ha:=hc a (by simp[cr]);refine⟨by rw[ha.1];exact D,E,by rw[ha.2];exact ia (fun b A=>hc b (by simp[cr,A])) h3,iV (fun b A=>hc b ?_) h4⟩;simp[cl,cr] at A |-;rcases A with A|A <;> simp[A]
  | (false,a,l)::c,root,v,hc,⟨D,E,h3,h4⟩=>by
    have ha:=hc a (by simp[cl]);refine⟨by rw[ha.2];exact D,E,by rw[ha.1];exact ia (fun b A=>hc b (by simp[cl,A])) h3,iV (fun b A=>hc b ?_) h4⟩;simp[cl,cr] at A |-;rcases A with A|A <;> simp[A]
theorem rep_wr {S:TS}{c:Ctx}{v n:Nat}(h:RepC S.nd c S.root v)(hd:(cl c++cr c).Nodup):RepC (S.wr n (dJ c)).nd c (S.wr n (dJ c)).root n:=by
  match c,h,hd with
  | [],h,_=>rfl
  | (true,a,r)::c,⟨D,E,h3,h4⟩,hd =>
    simp only[cl,cr] at hd;rw[List.nodup_append] at hd;obtain⟨d1,d2,d3⟩:=hd;simp only[List.cons_append,List.nodup_cons,List.mem_append,not_or] at d2
    have xy:∀b,b∈r.hs\/b∈cl c\/b∈cr c->b≠a:=by
      rintro b (A|A|A) rfl
      · exact d2.1.1 A
      · exact d3 b A b (by simp) rfl
      · exact d2.1.2 A
    simp only[dJ,TS.wr];refine⟨by simp[upd],E,?_,?_⟩
    · simp only[zr];exact ia (fun b A=>by rw[zn _ _ (xy b (.inl A))];exact⟨rfl,rfl⟩) h3
    · exact iV (fun b A=>by rw[zn _ _ (xy b (.inr (by simpa using A)))];exact⟨rfl,rfl⟩) h4
  | (false,a,l)::c,⟨D,E,h3,h4⟩,hd =>
    simp only[cl,cr] at hd;rw[List.nodup_append] at hd;obtain⟨d1,d2,d3⟩:=hd;rw[List.nodup_append] at d1;obtain⟨d4,d5,d6⟩:=d1;rw[List.nodup_append] at d5;obtain⟨d7,d8,d9⟩:=d5
    have xy:∀b,b∈l.hs\/b∈cl c\/b∈cr c->b≠a:=by
      rintro b (A|A|A) rfl
      · exact d9 b A b (by simp) rfl
      · exact d6 b A b (by simp) rfl
      · exact d3 b (by simp) b A rfl
    simp only[dJ,TS.wr];refine⟨by simp[upd],E,?_,?_⟩
    · simp only[zr];exact ia (fun b A=>by rw[zn _ _ (xy b (.inl A))];exact⟨rfl,rfl⟩) h3
    · exact iV (fun b A=>by rw[zn _ _ (xy b (.inr (by simpa using A)))];exact⟨rfl,rfl⟩) h4
structure TI (s:Bool) (S:TS) (t:Tr):Prop where
  rep:Rep S.nd t S.root
  nodup:t.hs.Nodup
  range:∀h∈t.hs,1<=h/\h<=S.lc
  len:t.hs.length=S.lc
  sorted:t.hs.Pairwise (fun a b=>bt s (S.nd a).ticks (S.nd b).ticks)
  fresh:∀h,S.lc<h->S.nd h=zNd
structure Way (s:Bool) (S:TS) (t:Tr) (k:Int) (c:Ctx) (u:Tr):Prop where
  plug:t=plug c u
  repC:RepC S.nd c S.root (S.rd (dJ c))
  rep:Rep S.nd u (S.rd (dJ c))
  left:∀a∈cl c,bt s (S.nd a).ticks k
  right:∀a∈cr c,bt s k (S.nd a).ticks
theorem way_start {s:Bool}{S:TS}{t:Tr}(h:TI s S t)(k:Int):Way s S t k [] t:=
  ⟨rfl,rfl,h.rep,by simp[cl],by simp[cr]⟩
theorem way_pair {s:Bool}{S:TS}{a:Nat}{l r:Tr}{c:Ctx}(h:(plug c (.node a l r)).hs.Pairwise (fun a b=>bt s (S.nd a).ticks (S.nd b).ticks)) :
    (∀b∈l.hs,bt s (S.nd b).ticks (S.nd a).ticks)/\(∀b∈r.hs,bt s (S.nd a).ticks (S.nd b).ticks):=by
  rw[gQ,Tr.hs] at h;have E:=(List.pairwise_append.1 (List.pairwise_append.1 h).2.1).1;obtain⟨_,h3,h4⟩:=List.pairwise_append.1 E;exact⟨fun b A=>h4 b A a (by simp),(List.pairwise_cons.1 h3).1⟩
theorem way_be {s:Bool}{S:TS}{t:Tr}{k:Int}{c:Ctx}{u:Tr}{a:Nat}(hi:TI s S t)(h:Way s S t k c u)(ha:S.rd (dJ c)=a)(h0:a≠0)(X:bt s k (S.nd a).ticks) :
    ∃l r,u = .node a l r/\Way s S t k ((true,a,r)::c) l:=by
  obtain⟨D,E,h3,h4,h5⟩:=h;rw[ha] at E h3;obtain⟨l,r,rfl,h6,h7⟩:=rep_node h3 h0;have hp:=way_pair (by rw[<- D];exact hi.sorted);refine⟨l,r,rfl,D,⟨rfl,by omega,h7,E⟩,h6,h4,fun b A=>?_⟩;simp only[cr,List.cons_append,List.mem_cons,List.mem_append] at A;rcases A with rfl|A|A
  · exact X
  · exact bt_trans X (hp.2 b A)
  · exact h5 b A
theorem way_wo {s:Bool}{S:TS}{t:Tr}{k:Int}{c:Ctx}{u:Tr}{a:Nat}(hi:TI s S t)(h:Way s S t k c u)(ha:S.rd (dJ c)=a)(h0:a≠0)(X:bt s (S.nd a).ticks k) :
    ∃l r,u = .node a l r/\Way s S t k ((false,a,l)::c) r:=by
  obtain⟨D,E,h3,h4,h5⟩:=h;rw[ha] at E h3;obtain⟨l,r,rfl,h6,h7⟩:=rep_node h3 h0;have hp:=way_pair (by rw[<- D];exact hi.sorted);refine⟨l,r,rfl,D,⟨rfl,by omega,h6,E⟩,h7,fun b A=>?_,h5⟩;simp only[cl,List.mem_append,List.mem_cons,List.not_mem_nil,or_false] at A;rcases A with A|A|rfl
  · exact h4 b A
  · exact bt_trans (hp.1 b A) X
  · exact X
theorem way_at {s:Bool}{S:TS}{t:Tr}{k:Int}{c:Ctx}{u:Tr}{a:Nat}(h:Way s S t k c u)(ha:S.rd (dJ c)=a)(h0:a≠0):a∈t.hs:=by
  obtain⟨D,E,h3,_⟩:=h;rw[ha] at h3;obtain⟨l,r,rfl,_⟩:=rep_node h3 h0;rw[D,gQ];simp[Tr.hs]
def TS.grow (S:TS)(cu:Cur)(sd k:Int):TS:=
  let S1:=S.wr (S.lc+1) cu
  { S1 with lc:=S.lc+1,nd:=upd S1.nd (S.lc+1) { S1.nd (S.lc+1) with side:=sd,ticks:=k,qty:=0,count:=0 } }
theorem lK (S:TS)(n:Nat)(cu:Cur)(a:Nat):((S.wr n cu).nd a).ticks=(S.nd a).ticks:=by
  cases cu with
  | root=>rfl
  | be h=>simp only[TS.wr,upd];split <;> simp_all
  | wo h=>simp only[TS.wr,upd];split <;> simp_all
theorem wr_nd_out (S:TS)(n:Nat)(c:Ctx)(a:Nat)(ha:a ∉ cl c++cr c):(S.wr n (dJ c)).nd a=S.nd a:=by
  match c,ha with
  | [],_=>rfl
  | (true,b,r)::c,ha=>simp only[dJ,TS.wr];exact zn _ _ (fun e=>ha (by simp[cl,cr,e]))
  | (false,b,l)::c,ha=>simp only[dJ,TS.wr];exact zn _ _ (fun e=>ha (by simp[cl,cr,e]))
theorem wr_same (S:TS)(n:Nat)(cu:Cur):(S.wr n cu).lc=S.lc/\(S.wr n cu).oc=S.oc/\(S.wr n cu).qo=S.qo:=by
  cases cu <;> exact⟨rfl,rfl,rfl⟩
theorem wr_nd_rest (S:TS)(n:Nat)(cu:Cur)(a:Nat):((S.wr n cu).nd a).side=(S.nd a).side/\((S.wr n cu).nd a).qty=(S.nd a).qty/\((S.wr n cu).nd a).count=(S.nd a).count/\((S.wr n cu).nd a).el=(S.nd a).el/\((S.wr n cu).nd a).yo=(S.nd a).yo:=by
  cases cu with
  | root=>exact⟨rfl,rfl,rfl,rfl,rfl⟩
  | be h=>simp only[TS.wr,upd];split <;> simp_all
  | wo h=>simp only[TS.wr,upd];split <;> simp_all
theorem ti_grow {s:Bool}{S:TS}{t:Tr}{k sd:Int}{c:Ctx}{u:Tr}(hi:TI s S t)(h:Way s S t k c u)(h0:S.rd (dJ c)=0) :
    TI s (S.grow (dJ c) sd k) (plug c (.node (S.lc+1) .nil .nil))/\t.hs=cl c++cr c/\(∀a∈t.hs,(S.nd a).ticks≠k):=by
  obtain⟨D,E,h3,h4,h5⟩:=h;rw[h0] at h3;obtain rfl:=rep_nil h3;have ht:t.hs=cl c++cr c:=by rw[D,gQ];simp[Tr.hs]
  have pZ:S.lc+1 ∉ cl c++cr c:=by
    rw[<- ht];intro hm;have:=(hi.range _ hm).2;omega
  have hnd:=hi.nodup;rw[ht] at hnd
  have hz:(S.grow (dJ c) sd k).nd (S.lc+1) = { zNd with side:=sd,ticks:=k }:=by
    show upd _ _ _ _ = _;rw[zr,wr_nd_out S _ c _ pZ,hi.fresh _ (by omega)];rfl
  have hrc:=rep_wr (n:=S.lc+1) E hnd;have hag:∀b∈cl c++cr c,(S.grow (dJ c) sd k).nd b=(S.wr (S.lc+1) (dJ c)).nd b:=fun b A=>zn _ _ (fun e=>pZ (e ▸ A));have hhs:(plug c (.node (S.lc+1) .nil .nil)).hs=cl c++(S.lc+1)::cr c:=by rw[gQ];simp[Tr.hs]
  have oD:∀b∈cl c++cr c,((S.grow (dJ c) sd k).nd b).ticks=(S.nd b).ticks:=fun b A=>by rw[hag b A,lK]
  have bF:=hi.sorted;rw[ht] at bF;refine⟨⟨?_,?_,?_,?_,?_,?_⟩,ht,?_⟩
  · refine rep_plug c _ (S.lc+1) (iV (fun b A=>by rw[hag b A];exact⟨rfl,rfl⟩) hrc) ⟨rfl,by omega,?_,?_⟩ <;> rw[hz] <;> rfl
  · rw[hhs];rw[List.nodup_append] at hnd |-;obtain⟨d1,d2,d3⟩:=hnd;refine⟨d1,List.nodup_cons.2 ⟨fun hm=>pZ (by simp[hm]),d2⟩,?_⟩;intro a ha b A;rcases List.mem_cons.1 A with rfl|A
    · rintro rfl;exact pZ (by simp[ha])
    · exact d3 a ha b A
  · rw[hhs];intro a ha;have jC:(S.grow (dJ c) sd k).lc=S.lc+1:=rfl;rw[jC];simp only[List.mem_append,List.mem_cons] at ha;rcases ha with ha|rfl|ha
    · have:=hi.range a (by rw[ht];simp[ha]);omega
    · omega
    · have:=hi.range a (by rw[ht];simp[ha]);omega
  · rw[hhs];have:=hi.len;rw[ht] at this;show _ = S.lc+1;simp at this |-;omega
  · rw[hhs,List.pairwise_append];rw[List.pairwise_append] at bF;obtain⟨d1,d2,d3⟩:=bF;refine⟨d1.imp_of_mem fun {a b} ha A hab=>?_,List.pairwise_cons.2 ⟨fun b A=>?_,d2.imp_of_mem fun {a b} ha A hab=>?_⟩,fun a ha b A=>?_⟩
    · rw[oD a (by simp[ha]),oD b (by simp[A])];exact hab
    · rw[hz,oD b (by simp[A])];exact h5 b A
    · rw[oD a (by simp[ha]),oD b (by simp[A])];exact hab
    · rw[oD a (by simp[ha])];rcases List.mem_cons.1 A with rfl|A
      · rw[hz];exact h4 a ha
      · rw[oD b (by simp[A])];exact d3 a ha b A
  · intro h hh;have hh':S.lc+1<h:=hh;show upd _ _ _ _ = _;rw[zn _ _ (by omega),wr_nd_out S _ c _ (by rw[<- ht];intro hm;have:=(hi.range _ hm).2;omega),hi.fresh _ (by omega)]
  · intro a ha;rw[ht,List.mem_append] at ha;rcases ha with ha|ha
    · intro e;have:=h4 a ha;rw[e] at this;exact bt_irr _ _ this
    · intro e;have:=h5 a ha;rw[e] at this;exact bt_irr _ _ this
end Go.Proofs.YtbghmldggahjiaaGreatDoor
