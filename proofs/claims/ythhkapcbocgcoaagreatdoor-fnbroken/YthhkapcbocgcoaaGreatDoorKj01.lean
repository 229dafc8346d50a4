/-.-/
import Derived.Test.YthhkapcbocgcoaaGreatDoorRows
import Derived.WalkKit
import Derived.Below
import Derived.Deep.MidRow
import Derived.OpenShut
import Derived.Deep.QuietTactic
import Derived.BigQuiet
import Derived.WalkSmall
import Derived.WalkSpells
import Derived.Handy
import Derived.WalkLawsBesides
import Derived.Deep.RegionWith
import Derived.Deep.LoopGhost
import Derived.BigRegion
import Derived.Laws.Externs
set_option linter.unusedVariables false
set_option maxHeartbeats 6400000
set_option maxRecDepth 100000
namespace Go.Proofs.YthhkapcbocgcoaaGreatDoor
open Go.RowKit
theorem hide {p:Prop}(h:p):Hid p:=h
theorem U {p:Prop}(h:Hid p):p:=h
theorem zp {a b:Bool}(h:a=b):Ending.returned (.bool a) = .returned (.bool b):=by rw[h]
theorem zB {k:IntKind}{a b:Int}(h:a=b):Ending.returned (.int k a) = .returned (.int k b):=by rw[h]
theorem get_nat (s:ByteArray)(k:Nat)(h:k<s.size):s[k]=s.data.toList[k]'(by simpa using h):=rfl
theorem data_len (s:ByteArray):s.data.toList.length=s.size:=by simp
abbrev H (n : Int) : Value:= .int .i64 n
abbrev J (b o : Nat) : Addr:= ⟨b, o, none⟩
abbrev I (b o : Nat) : Value:= .pointer (some ⟨b, o, none⟩)
theorem ya {n : Nat} : n<=n:= Nat.le_refl n
theorem yb {zb : Type}{a b : zb}(h : some a=some b) : a=b:= Option.some.inj h
theorem Z {p : Prop}(h : p) : Hid p:= h
theorem yh {o : Option Value}{v : Value}(h : o=some v) : ∀u, o=some u->v=u:= fun u hu => Option.some.inj (h.symm.trans hu)
theorem yi {o : Option (Option Value)}{v : Value}(h : o=some (some v)) : ∀u, o=some (some u)->v=u:= fun u hu => Option.some.inj (Option.some.inj (h.symm.trans hu))
abbrev yj (n : Nat) : Value:= .float .f64 n
abbrev yk (b : ByteArray) : Value:= .string b
abbrev M : Value:= undef
abbrev mq (a : Array Value)(t : TypeId) : Obj:= Obj.cells a t
theorem ms {P : Program}{ho : Exit->Act->World->Prop}{a : Act}{w : World}{x y : Code}(h : ∀mR : Act->World->Prop, Hid (∀a w, y.wp P ho a w->mR a w)->x.wp P (Exit.then mR ho) a w) : (Code.seq x y).wp P ho a w:= wp_seq_k h
theorem mn (w : World)(o : Obj) : Below w.heap.size w (w.alloc o):= (Below.refl _ _).alloc (Nat.le_refl _) _
theorem mr {w w1 w2 : World}(h : Below w.heap.size w w1)(E : Below w1.heap.size w1 w2) : Below w.heap.size w w2:= h.trans (E.mono h.size)
abbrev yv (a b c d e f g : Int)(p : Nat)(s : ByteArray)(h i j k l : Int) : List Value:= [.int .i64 a, .int .i64 b, .int .i64 c, .int .i64 d, .int .i64 e, .int .i64 f, .int .i64 g, .float .f64 p, .string s, .int .i64 h, .int .i64 i, .int .i64 j, .int .i64 k, .int .i64 l]
abbrev yw (a b c d e : Int)(s : ByteArray) : List Value:= [.int .i64 a, .int .i64 b, .int .i64 c, .int .i64 d, .int .i64 e, .string s]
abbrev yx (a b c d e f : Int)(p : Nat)(s : ByteArray) : List Value:= [.int .i64 a, .int .i64 b, .int .i64 c, .int .i64 d, .int .i64 e, .int .i64 f, .float .f64 p, .string s]
abbrev ym (v : Value) : Ending:= .returned v
abbrev yn (w w1 : World) : Prop:= Below w.heap.size w w1
abbrev yp (w : World)(o : Nat) : Value:= .pointer (some ⟨w.heap.size, o, none⟩)
abbrev yq (w : World)(o : Nat) : Addr:= ⟨w.heap.size, o, none⟩
theorem yC {W : World}{b : Nat}{v0 v1 v2 v3 v4 : Value}(h : W.rangeAt b 0 [v0, v1, v2, v3, v4]) : W.cell? ⟨b, 0, none⟩=some v0/\W.cell? ⟨b, 1, none⟩=some v1/\W.cell? ⟨b, 2, none⟩=some v2/\W.cell? ⟨b, 3, none⟩=some v3/\W.cell? ⟨b, 4, none⟩=some v4:= ⟨h 0 _ rfl, h 1 _ rfl, h 2 _ rfl, h 3 _ rfl, h 4 _ rfl⟩
theorem yD {W : World}{b : Nat}{v0 v1 v2 v3 v4 v5 : Value}(h : W.rangeAt b 0 [v0, v1, v2, v3, v4, v5]) : W.cell? ⟨b, 0, none⟩=some v0/\W.cell? ⟨b, 1, none⟩=some v1/\W.cell? ⟨b, 2, none⟩=some v2/\W.cell? ⟨b, 3, none⟩=some v3/\W.cell? ⟨b, 4, none⟩=some v4/\W.cell? ⟨b, 5, none⟩=some v5:= ⟨h 0 _ rfl, h 1 _ rfl, h 2 _ rfl, h 3 _ rfl, h 4 _ rfl, h 5 _ rfl⟩
theorem yE {W : World}{b : Nat}{v0 v1 v2 v3 v4 v5 v6 v7 : Value}(h : W.rangeAt b 0 [v0, v1, v2, v3, v4, v5, v6, v7]) : W.cell? ⟨b, 0, none⟩=some v0/\W.cell? ⟨b, 1, none⟩=some v1/\W.cell? ⟨b, 2, none⟩=some v2/\W.cell? ⟨b, 3, none⟩=some v3/\W.cell? ⟨b, 4, none⟩=some v4/\W.cell? ⟨b, 5, none⟩=some v5/\W.cell? ⟨b, 6, none⟩=some v6/\W.cell? ⟨b, 7, none⟩=some v7:= ⟨h 0 _ rfl, h 1 _ rfl, h 2 _ rfl, h 3 _ rfl, h 4 _ rfl, h 5 _ rfl, h 6 _ rfl, h 7 _ rfl⟩
theorem yF {W : World}{b : Nat}{v0 v1 v2 v3 v4 v5 v6 v7 v8 : Value}(h : W.rangeAt b 0 [v0, v1, v2, v3, v4, v5, v6, v7, v8]) : W.cell? ⟨b, 0, none⟩=some v0/\W.cell? ⟨b, 1, none⟩=some v1/\W.cell? ⟨b, 2, none⟩=some v2/\W.cell? ⟨b, 3, none⟩=some v3/\W.cell? ⟨b, 4, none⟩=some v4/\W.cell? ⟨b, 5, none⟩=some v5/\W.cell? ⟨b, 6, none⟩=some v6/\W.cell? ⟨b, 7, none⟩=some v7/\W.cell? ⟨b, 8, none⟩=some v8:= ⟨h 0 _ rfl, h 1 _ rfl, h 2 _ rfl, h 3 _ rfl, h 4 _ rfl, h 5 _ rfl, h 6 _ rfl, h 7 _ rfl, h 8 _ rfl⟩
theorem yG {W : World}{b : Nat}{v0 v1 v2 v3 v4 v5 v6 v7 v8 v9 v10 v11 v12 v13 : Value}(h : W.rangeAt b 0 [v0, v1, v2, v3, v4, v5, v6, v7, v8, v9, v10, v11, v12, v13]) : W.cell? ⟨b, 0, none⟩=some v0/\W.cell? ⟨b, 1, none⟩=some v1/\W.cell? ⟨b, 2, none⟩=some v2/\W.cell? ⟨b, 3, none⟩=some v3/\W.cell? ⟨b, 4, none⟩=some v4/\W.cell? ⟨b, 5, none⟩=some v5/\W.cell? ⟨b, 6, none⟩=some v6/\W.cell? ⟨b, 7, none⟩=some v7/\W.cell? ⟨b, 8, none⟩=some v8/\W.cell? ⟨b, 9, none⟩=some v9/\W.cell? ⟨b, 10, none⟩=some v10/\W.cell? ⟨b, 11, none⟩=some v11/\W.cell? ⟨b, 12, none⟩=some v12/\W.cell? ⟨b, 13, none⟩=some v13:= ⟨h 0 _ rfl, h 1 _ rfl, h 2 _ rfl, h 3 _ rfl, h 4 _ rfl, h 5 _ rfl, h 6 _ rfl, h 7 _ rfl, h 8 _ rfl, h 9 _ rfl, h 10 _ rfl, h 11 _ rfl, h 12 _ rfl, h 13 _ rfl⟩
abbrev yH:= @List.getElem?_eq_some_iff
abbrev yI:= @List.getElem?_eq_getElem
abbrev yJ:= @List.getElem?_replicate
abbrev yK:= @Nat.lt_of_lt_of_le
abbrev yL:= @World.block_lt_of_cell?
abbrev yM:= @World.cell?_setCell_other
abbrev yN:= @World.cell?_setCell_same
abbrev yO:= @Nat.le_trans
abbrev yP:= @List.mem_of_getElem?
abbrev yQ:= @List.length_append
abbrev yR:= @World.cell?_of_block
abbrev yS:= @World.grownBy.refl
abbrev yT:= @Below.heap_setCell
abbrev yU:= @List.take_succ_cons
abbrev yV:= @List.drop_succ_cons
abbrev yW:= @World.cell?_alloc_lt
abbrev yX:= @List.getElem?_set_ne
abbrev yY:= @World.rangeAt_setCells_same
abbrev yZ:= @Array.getElem?_eq_some_iff
abbrev xa:= @List.take_of_length_le
abbrev xb:= @List.drop_of_length_le
abbrev xc:= @World.there_setCells
abbrev xd:= @List.drop_eq_getElem_cons
abbrev xe:= @beq_eq_false_iff_ne
abbrev xf:= @Bool.and_eq_true
abbrev xg:= @decide_eq_true_eq
theorem ye {hR : Array Edge}{x : List Bool}(h : ∀e∈hR, Region.binds .any e=true->x[e.on]? = some true)(j : Nat)(hm : (hR.toList.any fun e => e.on==j&&Region.binds .any e)=true) : x[j]? = some true:= by
  obtain⟨e, he, hp⟩:= List.any_eq_true.1 hm;rw[Bool.and_eq_true] at hp;have D : e.on=j:= by simpa using hp.1
  have:= h e (by simpa using he) hp.2;rw[D] at this;exact this
structure Od where
  id:Int
  side:Int
  ticks:Int
  left:Int
  life:Int
  tag:ByteArray
structure Nd where
  side:Int
  ticks:Int
  qty:Int
  count:Int
  be:Nat
  wo:Nat
  el:Nat
  yo:Nat
structure Qo where
  od:Od
  yg:Nat
structure TS where
  root:Nat
  lc:Nat
  oc:Nat
  nd:Nat->Nd
  qo:Nat->Qo
inductive Tr where
  | nil:Tr
  | node (h:Nat) (l r:Tr):Tr
def zOd:Od:=⟨0,0,0,0,0,⟨#[]⟩⟩
def zNd:Nd:=⟨0,0,0,0,0,0,0,0⟩
def zQo:Qo:=⟨zOd,0⟩
def zTS:TS:=⟨0,0,0,fun _=>zNd,fun _=>zQo⟩
def bt:Bool->Int->Int->Prop
  | true,a,b=>b<a
  | false,a,b=>a<b
theorem bt_irr (s:Bool)(a:Int):¬ bt s a a:=by cases s <;> simp[bt]
theorem bt_trans {s:Bool}{a b c:Int}(D:bt s a b)(Y:bt s b c):bt s a c:=by cases s <;> simp only[bt] at * <;> omega
theorem bt_total (s:Bool)(a b:Int):bt s a b\/a=b\/bt s b a:=by cases s <;> simp only[bt] <;> omega
theorem bt_asymm {s:Bool}{a b:Int}(D:bt s a b):¬ bt s b a:=by cases s <;> simp only[bt] at * <;> omega
instance (s:Bool) (a b:Int):Decidable (bt s a b):=by cases s <;> (unfold bt;infer_instance)
def Tr.hs:Tr->List Nat
  | .nil=>[]
  | .node h l r=>l.hs++h::r.hs
def Rep (nd:Nat->Nd):Tr->Nat->Prop
  | .nil,v=>v=0
  | .node h l r,v=>v=h/\0<h/\Rep nd l (nd h).be/\Rep nd r (nd h).wo
theorem ic {nd nd':Nat->Nd}:∀ {t:Tr} {v:Nat},(∀h∈t.hs,(nd' h).be=(nd h).be/\(nd' h).wo=(nd h).wo)->Rep nd t v->Rep nd' t v
  | .nil,_,_,h=>h
  | .node h l r,v,hc,⟨D,Y,h3,h4⟩=>by
    have hh:=hc h (by simp[Tr.hs]);refine⟨D,Y,?_,?_⟩
    · rw[hh.1];exact ic (fun a ha=>hc a (by simp[Tr.hs,ha])) h3
    · rw[hh.2];exact ic (fun a ha=>hc a (by simp[Tr.hs,ha])) h4
theorem rep_nil {nd:Nat->Nd}{t:Tr}(h:Rep nd t 0):t = .nil:=by
  cases t with
  | nil=>rfl
  | node a l r=>obtain⟨D,Y,_⟩:=h;omega
theorem rep_node {nd:Nat->Nd}{t:Tr}{v:Nat}(h:Rep nd t v)(hv:v≠0):∃l r,t = .node v l r/\Rep nd l (nd v).be/\Rep nd r (nd v).wo:=by
  cases t with
  | nil=>exact absurd h hv
  | node a l r=>obtain⟨rfl,_,h3,h4⟩:=h;exact⟨l,r,rfl,h3,h4⟩
inductive Cur where
  | root:Cur
  | be (h:Nat):Cur
  | wo (h:Nat):Cur
def TS.rd (S:TS):Cur->Nat
  | .root=>S.root
  | .be h=>(S.nd h).be
  | .wo h=>(S.nd h).wo
def upd {α:Type}(f:Nat->α)(i:Nat)(x:α):Nat->α:=fun j=>if j=i then x else f j
theorem zo {α:Type}(f:Nat->α)(i:Nat)(x:α):upd f i x i=x:=by simp[upd]
theorem zk {α:Type}(f:Nat->α){i j:Nat}(x:α)(h:j≠i):upd f i x j=f j:=by simp[upd,h]
def TS.wr (S:TS)(n:Nat):Cur->TS
  | .root=>{ S with root:=n }
  | .be h=>{ S with nd:=upd S.nd h { S.nd h with be:=n } }
  | .wo h=>{ S with nd:=upd S.nd h { S.nd h with wo:=n } }
abbrev Ctx:=List (Bool × Nat × Tr)
def plug:Ctx->Tr->Tr
  | [],s=>s
  | (true,h,r)::c,s=>plug c (.node h s r)
  | (false,h,l)::c,s=>plug c (.node h l s)
def dP:Ctx->Cur
  | []=>.root
  | (true,h,_) :: _=>.be h
  | (false,h,_) :: _=>.wo h
def O:Ctx->List Nat
  | []=>[]
  | (true,_,_)::c=>O c
  | (false,h,l)::c=>O c++(l.hs ++ [h])
def cr:Ctx->List Nat
  | []=>[]
  | (true,h,r)::c=>h::r.hs++cr c
  | (false,_,_)::c=>cr c
theorem gV:∀(c:Ctx) (s:Tr),(plug c s).hs=O c++(s.hs++cr c)
  | [],s=>by simp[plug,O,cr]
  | (true,h,r)::c,s=>by rw[plug,gV c];simp[Tr.hs,O,cr]
  | (false,h,l)::c,s=>by rw[plug,gV c];simp[Tr.hs,O,cr]
def RepC (nd:Nat->Nd):Ctx->Nat->Nat->Prop
  | [],root,v=>v=root
  | (true,h,r)::c,root,v=>v=(nd h).be/\0<h/\Rep nd r (nd h).wo/\RepC nd c root h
  | (false,h,l)::c,root,v=>v=(nd h).wo/\0<h/\Rep nd l (nd h).be/\RepC nd c root h
theorem rep_plug {nd:Nat->Nd}{root:Nat}:∀(c:Ctx) (s:Tr) (v:Nat),RepC nd c root v->Rep nd s v->Rep nd (plug c s) root
  | [],s,v,h,hs=>by rw[<- h];exact hs
  | (true,a,r)::c,s,v,⟨D,Y,h3,h4⟩,hs=>rep_plug c (.node a s r) a h4 ⟨rfl,Y,D ▸ hs,h3⟩
  | (false,a,l)::c,s,v,⟨D,Y,h3,h4⟩,hs=>rep_plug c (.node a l s) a h4 ⟨rfl,Y,h3,D ▸ hs⟩
theorem iZ {nd nd':Nat->Nd}:∀ {c:Ctx} {root v:Nat},(∀h∈O c++cr c,(nd' h).be=(nd h).be/\(nd' h).wo=(nd h).wo)->RepC nd c root v->RepC nd' c root v
  | [],_,_,_,h=>h
  | (true,a,r)::c,root,v,hc,⟨D,Y,h3,h4⟩=>by
    have ha:=hc a (by simp[cr]);refine⟨by rw[ha.1];exact D,Y,by rw[ha.2];exact ic (fun b E=>hc b (by simp[cr,E])) h3,iZ (fun b E=>hc b ?_) h4⟩;simp[O,cr] at E |-;rcases E with E|E <;> simp[E]
  | (false,a,l)::c,root,v,hc,⟨D,Y,h3,h4⟩=>by
    have ha:=hc a (by simp[O]);refine⟨by rw[ha.2];exact D,Y,by rw[ha.1];exact ic (fun b E=>hc b (by simp[O,E])) h3,iZ (fun b E=>hc b ?_) h4⟩;simp[O,cr] at E |-;rcases E with E|E <;> simp[E]
theorem rep_wr {S:TS}{c:Ctx}{v n:Nat}(h:RepC S.nd c S.root v)(hd:(O c++cr c).Nodup):RepC (S.wr n (dP c)).nd c (S.wr n (dP c)).root n:=by
  match c,h,hd with
  | [],h,_=>rfl
  | (true,a,r)::c,⟨D,Y,h3,h4⟩,hd =>
    simp only[O,cr] at hd;rw[List.nodup_append] at hd;obtain⟨d1,d2,d3⟩:=hd;simp only[List.cons_append,List.nodup_cons,List.mem_append,not_or] at d2
    have xr:∀b,b∈r.hs\/b∈O c\/b∈cr c->b≠a:=by
      rintro b (E|E|E) rfl
      · exact d2.1.1 E
      · exact d3 b E b (by simp) rfl
      · exact d2.1.2 E
    simp only[dP,TS.wr];refine⟨by simp[upd],Y,?_,?_⟩
    · simp only[zo];exact ic (fun b E=>by rw[zk _ _ (xr b (.inl E))];exact⟨rfl,rfl⟩) h3
    · exact iZ (fun b E=>by rw[zk _ _ (xr b (.inr (by simpa using E)))];exact⟨rfl,rfl⟩) h4
  | (false,a,l)::c,⟨D,Y,h3,h4⟩,hd =>
    simp only[O,cr] at hd;rw[List.nodup_append] at hd;obtain⟨d1,d2,d3⟩:=hd;rw[List.nodup_append] at d1;obtain⟨d4,d5,d6⟩:=d1;rw[List.nodup_append] at d5;obtain⟨d7,d8,d9⟩:=d5
    have xr:∀b,b∈l.hs\/b∈O c\/b∈cr c->b≠a:=by
      rintro b (E|E|E) rfl
      · exact d9 b E b (by simp) rfl
      · exact d6 b E b (by simp) rfl
      · exact d3 b (by simp) b E rfl
    simp only[dP,TS.wr];refine⟨by simp[upd],Y,?_,?_⟩
    · simp only[zo];exact ic (fun b E=>by rw[zk _ _ (xr b (.inl E))];exact⟨rfl,rfl⟩) h3
    · exact iZ (fun b E=>by rw[zk _ _ (xr b (.inr (by simpa using E)))];exact⟨rfl,rfl⟩) h4
structure TI (s:Bool) (S:TS) (t:Tr):Prop where
  rep:Rep S.nd t S.root
  nodup:t.hs.Nodup
  range:∀h∈t.hs,1<=h/\h<=S.lc
  len:t.hs.length=S.lc
  sorted:t.hs.Pairwise (fun a b=>bt s (S.nd a).ticks (S.nd b).ticks)
  fresh:∀h,S.lc<h->S.nd h=zNd
structure Way (s:Bool) (S:TS) (t:Tr) (k:Int) (c:Ctx) (u:Tr):Prop where
  plug:t=plug c u
  repC:RepC S.nd c S.root (S.rd (dP c))
  rep:Rep S.nd u (S.rd (dP c))
  left:∀a∈O c,bt s (S.nd a).ticks k
  right:∀a∈cr c,bt s k (S.nd a).ticks
theorem way_start {s:Bool}{S:TS}{t:Tr}(h:TI s S t)(k:Int):Way s S t k [] t:=
  ⟨rfl,rfl,h.rep,by simp[O],by simp[cr]⟩
theorem way_pair {s:Bool}{S:TS}{a:Nat}{l r:Tr}{c:Ctx}(h:(plug c (.node a l r)).hs.Pairwise (fun a b=>bt s (S.nd a).ticks (S.nd b).ticks)) :
    (∀b∈l.hs,bt s (S.nd b).ticks (S.nd a).ticks)/\(∀b∈r.hs,bt s (S.nd a).ticks (S.nd b).ticks):=by
  rw[gV,Tr.hs] at h;have Y:=(List.pairwise_append.1 (List.pairwise_append.1 h).2.1).1;obtain⟨_,h3,h4⟩:=List.pairwise_append.1 Y;exact⟨fun b E=>h4 b E a (by simp),(List.pairwise_cons.1 h3).1⟩
theorem way_be {s:Bool}{S:TS}{t:Tr}{k:Int}{c:Ctx}{u:Tr}{a:Nat}(hi:TI s S t)(h:Way s S t k c u)(ha:S.rd (dP c)=a)(h0:a≠0)(hk:bt s k (S.nd a).ticks) :
    ∃l r,u = .node a l r/\Way s S t k ((true,a,r)::c) l:=by
  obtain⟨D,Y,h3,h4,h5⟩:=h;rw[ha] at Y h3;obtain⟨l,r,rfl,h6,h7⟩:=rep_node h3 h0;have hp:=way_pair (by rw[<- D];exact hi.sorted);refine⟨l,r,rfl,D,⟨rfl,by omega,h7,Y⟩,h6,h4,fun b E=>?_⟩;simp only[cr,List.cons_append,List.mem_cons,List.mem_append] at E;rcases E with rfl|E|E
  · exact hk
  · exact bt_trans hk (hp.2 b E)
  · exact h5 b E
theorem way_wo {s:Bool}{S:TS}{t:Tr}{k:Int}{c:Ctx}{u:Tr}{a:Nat}(hi:TI s S t)(h:Way s S t k c u)(ha:S.rd (dP c)=a)(h0:a≠0)(hk:bt s (S.nd a).ticks k) :
    ∃l r,u = .node a l r/\Way s S t k ((false,a,l)::c) r:=by
  obtain⟨D,Y,h3,h4,h5⟩:=h;rw[ha] at Y h3;obtain⟨l,r,rfl,h6,h7⟩:=rep_node h3 h0;have hp:=way_pair (by rw[<- D];exact hi.sorted);refine⟨l,r,rfl,D,⟨rfl,by omega,h6,Y⟩,h7,fun b E=>?_,h5⟩;simp only[O,List.mem_append,List.mem_cons,List.not_mem_nil,or_false] at E;rcases E with E|E|rfl
  · exact h4 b E
  · exact bt_trans (hp.1 b E) hk
  · exact hk
theorem way_at {s:Bool}{S:TS}{t:Tr}{k:Int}{c:Ctx}{u:Tr}{a:Nat}(h:Way s S t k c u)(ha:S.rd (dP c)=a)(h0:a≠0):a∈t.hs:=by
  obtain⟨D,Y,h3,_⟩:=h;rw[ha] at h3;obtain⟨l,r,rfl,_⟩:=rep_node h3 h0;rw[D,gV];simp[Tr.hs]
def TS.grow (S:TS)(cu:Cur)(sd k:Int):TS:=
  let S1:=S.wr (S.lc+1) cu
  { S1 with lc:=S.lc+1,nd:=upd S1.nd (S.lc+1) { S1.nd (S.lc+1) with side:=sd,ticks:=k,qty:=0,count:=0 } }
theorem lX (S:TS)(n:Nat)(cu:Cur)(a:Nat):((S.wr n cu).nd a).ticks=(S.nd a).ticks:=by
  cases cu with
  | root=>rfl
  | be h=>simp only[TS.wr,upd];split <;> simp_all
  | wo h=>simp only[TS.wr,upd];split <;> simp_all
theorem wr_nd_out (S:TS)(n:Nat)(c:Ctx)(a:Nat)(ha:a ∉ O c++cr c):(S.wr n (dP c)).nd a=S.nd a:=by
  match c,ha with
  | [],_=>rfl
  | (true,b,r)::c,ha=>simp only[dP,TS.wr];exact zk _ _ (fun e=>ha (by simp[O,cr,e]))
  | (false,b,l)::c,ha=>simp only[dP,TS.wr];exact zk _ _ (fun e=>ha (by simp[O,cr,e]))
theorem wr_same (S:TS)(n:Nat)(cu:Cur):(S.wr n cu).lc=S.lc/\(S.wr n cu).oc=S.oc/\(S.wr n cu).qo=S.qo:=by
  cases cu <;> exact⟨rfl,rfl,rfl⟩
theorem wr_nd_rest (S:TS)(n:Nat)(cu:Cur)(a:Nat):((S.wr n cu).nd a).side=(S.nd a).side/\((S.wr n cu).nd a).qty=(S.nd a).qty/\((S.wr n cu).nd a).count=(S.nd a).count/\((S.wr n cu).nd a).el=(S.nd a).el/\((S.wr n cu).nd a).yo=(S.nd a).yo:=by
  cases cu with
  | root=>exact⟨rfl,rfl,rfl,rfl,rfl⟩
  | be h=>simp only[TS.wr,upd];split <;> simp_all
  | wo h=>simp only[TS.wr,upd];split <;> simp_all
theorem ti_grow {s:Bool}{S:TS}{t:Tr}{k sd:Int}{c:Ctx}{u:Tr}(hi:TI s S t)(h:Way s S t k c u)(h0:S.rd (dP c)=0) :
    TI s (S.grow (dP c) sd k) (plug c (.node (S.lc+1) .nil .nil))/\t.hs=O c++cr c/\(∀a∈t.hs,(S.nd a).ticks≠k):=by
  obtain⟨D,Y,h3,h4,h5⟩:=h;rw[h0] at h3;obtain rfl:=rep_nil h3;have ht:t.hs=O c++cr c:=by rw[D,gV];simp[Tr.hs]
  have ag:S.lc+1 ∉ O c++cr c:=by
    rw[<- ht];intro hm;have:=(hi.range _ hm).2;omega
  have hnd:=hi.nodup;rw[ht] at hnd
  have hz:(S.grow (dP c) sd k).nd (S.lc+1) = { zNd with side:=sd,ticks:=k }:=by
    show upd _ _ _ _ = _;rw[zo,wr_nd_out S _ c _ ag,hi.fresh _ (by omega)];rfl
  have hrc:=rep_wr (n:=S.lc+1) Y hnd;have hag:∀b∈O c++cr c,(S.grow (dP c) sd k).nd b=(S.wr (S.lc+1) (dP c)).nd b:=fun b E=>zk _ _ (fun e=>ag (e ▸ E));have hhs:(plug c (.node (S.lc+1) .nil .nil)).hs=O c++(S.lc+1)::cr c:=by rw[gV];simp[Tr.hs]
  have qq:∀b∈O c++cr c,((S.grow (dP c) sd k).nd b).ticks=(S.nd b).ticks:=fun b E=>by rw[hag b E,lX]
  have bV:=hi.sorted;rw[ht] at bV;refine⟨⟨?_,?_,?_,?_,?_,?_⟩,ht,?_⟩
  · refine rep_plug c _ (S.lc+1) (iZ (fun b E=>by rw[hag b E];exact⟨rfl,rfl⟩) hrc) ⟨rfl,by omega,?_,?_⟩ <;> rw[hz] <;> rfl
  · rw[hhs];rw[List.nodup_append] at hnd |-;obtain⟨d1,d2,d3⟩:=hnd;refine⟨d1,List.nodup_cons.2 ⟨fun hm=>ag (by simp[hm]),d2⟩,?_⟩;intro a ha b E;rcases List.mem_cons.1 E with rfl|E
    · rintro rfl;exact ag (by simp[ha])
    · exact d3 a ha b E
  · rw[hhs];intro a ha;have qw:(S.grow (dP c) sd k).lc=S.lc+1:=rfl;rw[qw];simp only[List.mem_append,List.mem_cons] at ha;rcases ha with ha|rfl|ha
    · have:=hi.range a (by rw[ht];simp[ha]);omega
    · omega
    · have:=hi.range a (by rw[ht];simp[ha]);omega
  · rw[hhs];have:=hi.len;rw[ht] at this;show _ = S.lc+1;simp at this |-;omega
  · rw[hhs,List.pairwise_append];rw[List.pairwise_append] at bV;obtain⟨d1,d2,d3⟩:=bV;refine⟨d1.imp_of_mem fun {a b} ha E hab=>?_,List.pairwise_cons.2 ⟨fun b E=>?_,d2.imp_of_mem fun {a b} ha E hab=>?_⟩,fun a ha b E=>?_⟩
    · rw[qq a (by simp[ha]),qq b (by simp[E])];exact hab
    · rw[hz,qq b (by simp[E])];exact h5 b E
    · rw[qq a (by simp[ha]),qq b (by simp[E])];exact hab
    · rw[qq a (by simp[ha])];rcases List.mem_cons.1 E with rfl|E
      · rw[hz];exact h4 a ha
      · rw[qq b (by simp[E])];exact d3 a ha b E
  · intro h hh;have hh':S.lc+1<h:=hh;show upd _ _ _ _ = _;rw[zk _ _ (by omega),wr_nd_out S _ c _ (by rw[<- ht];intro hm;have:=(hi.range _ hm).2;omega),hi.fresh _ (by omega)]
  · intro a ha;rw[ht,List.mem_append] at ha;rcases ha with ha|ha
    · intro e;have:=h4 a ha;rw[e] at this;exact bt_irr _ _ this
    · intro e;have:=h5 a ha;rw[e] at this;exact bt_irr _ _ this
def Rd (w:World)(v:Value)(l:List Int):Prop:=
 ∃(a:Option Addr) (cap:Nat),v = .slice a l.length cap/\l.length<=1073741824 /\
  (l ≠ []->∃b off,a=some (J b off)/\∀i,i<l.length->w.cell? (J b (off+i))=some (.int .u8 (l.getD i 0)))
theorem zw {a b c:World}{row:Option Nat}(h:a.grownBy b row)(k:b.grownBy c row):a.grownBy c row:=
 ⟨k.os.trans h.os,k.tape.trans h.tape,k.output.trans h.output,yO h.size k.size,
  fun i hi xr=>(k.block i (yK hi h.size) xr).trans (h.block i hi xr)⟩
theorem dX (w:World)(a:Addr)(u:Value):w.grownBy (w.setCell a u) (some a.block):=
 ⟨rfl,rfl,rfl,by simp[World.setCell],fun k _ xr=>yT _ _ _ _ (fun e=>xr (by rw[e]))⟩
theorem ft (w:World)(n:Nat)(row:Option Nat):w.grownBy (w.drewN n) row:=⟨rfl,rfl,rfl,Nat.le_refl _,fun _ _ _=>rfl⟩
theorem gr_below {w w':World}{g B:Nat}(h:w.grownBy w' (some g))(hB:B<=g)(hs:B<=w.heap.size):Below B w w':=
 ⟨h.os,h.tape,h.output,h.size,fun k hk=>h.block k (by omega) (by simp;omega)⟩
theorem ei {g a b:Nat}(h:a≠b):((J g a):Addr)≠(J g b):=by
 intro e;injection e;exact h (by assumption)
def Own (B:Nat)(w:World)(v:Value)(l:List Int):Prop:=
 ∃g cap,v = .slice (some (J g 0)) l.length cap/\B<=g/\g<w.heap.size/\l.length<=1073741824 /\
  (∀i,i<l.length->w.cell? (J g (0+i))=some (.int .u8 (l.getD i 0)))/\∀i,i<l.length->w.frozen? (J g (0+i))=false
theorem Tryz.infoByte:(Tryz.prog.info? 5).map (fun i=>(i.zero,i.size,i.bytes))=some (some (.int .u8 0),1,1):=by kernel_rfl
def OwnT (B:Nat)(w:World)(v:Value)(l:List Int):Prop:=
 ∃g cap xA t,v = .slice (some (J g 0)) l.length cap/\B<=g/\w.heap[g]? = some (.cells xA t (0,0))/\l.length<=cap/\cap<=xA.size/\cap<=maxLen/\l.length<=1073741824 /\
  xA.toList.take l.length=l.map (Value.int .u8)
theorem cell_head {w:World}{g t:Nat}{xA:Array Value}{l:List Int}(X:w.heap[g]? = some (.cells xA t (0,0)))(ht:xA.toList.take l.length=l.map (Value.int .u8)){i:Nat}(hi:i<l.length) :
  w.cell? (J g i)=some (.int .u8 (l.getD i 0)):=by
 rw[cell_of_row w g i xA t (0,0) X];have D:(xA.toList.take l.length)[i]? = (l.map (Value.int .u8))[i]?:=by rw[ht]
 rw[List.getElem?_take,if_pos hi,List.getElem?_map,yI hi] at D;simpa[hi] using D
theorem OwnT.own {B:Nat}{w:World}{v:Value}{l:List Int}(h:OwnT B w v l):Own B w v l:=by
 obtain⟨g,cap,xA,t,rfl,E,X,_,_,_,hl,ht⟩:=h;exact⟨g,cap,rfl,E,(yZ.1 X).1,hl,fun i hi=>by rw[Nat.zero_add];exact cell_head X ht hi,fun i _=>by simp[World.frozen?,X]⟩
theorem OwnT.ge {B:Nat}{w:World}{v:Value}{l:List Int}(h:OwnT B w v l):∀k,v.ownBlock=some k->B<=k:=by
 obtain⟨g,cap,xA,t,rfl,E,_⟩:=h;intro k hk;simp[Value.ownBlock] at hk;omega
theorem ownT_row {B:Nat}{w:World}{v:Value}{l:List Int}(xr:0<l.length)(xC:l.length<=1073741824)
  (h:w.ownsRow B 5 1 v l.length (l.map (Value.int .u8))):OwnT B w v l:=by
 rcases h.2 with⟨_,h0⟩|⟨g,cap,xA,rfl,E,X,D,Y,hcur,pH⟩
 ·omega
 ·exact⟨g,cap,xA,_,rfl,E,X,D,by omega,Y,xC,by simpa using pH⟩
def Arr (yl B:Nat)(w wr:World)(done:List Int):Prop:=
 ∃xA t,wr.heap[B]? = some (.cells xA t (0,0))/\xA.size=yl/\done.length<=yl/\xA.toList.take done.length=done.map (Value.int .u8)/\Below B w wr
theorem Arr.below {yl B:Nat}{w wr:World}{done:List Int}(h:Arr yl B w wr done):Below B w wr:=by
 obtain⟨_,_,_,_,_,_,h⟩:=h;exact h
theorem Arr.lt {yl B:Nat}{w wr:World}{done:List Int}(h:Arr yl B w wr done):B<wr.heap.size:=by
 obtain⟨_,_,h,_⟩:=h;exact(yZ.1 h).1
theorem Arr.some {yl B:Nat}{w wr:World}{done:List Int}(h:Arr yl B w wr done){j:Nat}(hj:j<yl):∃v,wr.cell? (J B j) = .some v:=by
 obtain⟨xA,t,D,Y,_⟩:=h;exact⟨_,(cell_of_row wr B j xA t (0,0) D).trans (Array.getElem?_eq_getElem (by omega))⟩
theorem Arr.free {yl B:Nat}{w wr:World}{done:List Int}(h:Arr yl B w wr done)(j:Nat):wr.frozen? (J B j)=false:=by
 obtain⟨xA,t,D,_⟩:=h;simp[World.frozen?,D]
theorem arr_start {yl:Nat}(w:World)(c:Array Value)(t:TypeId)(h:c.size=yl):Arr yl w.heap.size w (w.alloc (.cells c t)) []:=
 ⟨c,t,heap_alloc_new w _,h,Nat.zero_le _,rfl,mn _ _⟩
theorem arr_step {yl B:Nat}{w wr:World}{done:List Int}(x:Int)(h:Arr yl B w wr done)(hM:done.length<yl):Arr yl B w (wr.setCell (J B done.length) (.int .u8 x)) (done ++ [x]):=by
 obtain⟨xA,t,D,Y,h3,h4,h5⟩:=h;refine⟨xA.setIfInBounds done.length (.int .u8 x),t,by simp[World.setCell,Array.getElem?_modify,D],by simpa using Y,by simp;omega,?_,h5.setCell ya _⟩;rw[yQ,List.length_singleton,List.take_succ_eq_append_getElem (by simp;omega)];simp only[Array.toList_setIfInBounds,List.map_append,List.map_cons,List.map_nil];rw[List.take_set_of_le ya,h4];simp
theorem arr_own {yl B cap:Nat}{w wr:World}{l:List Int}(h:Arr yl B w wr l)(hc:cap=yl)(hM':yl<=1073741824):OwnT B wr (.slice (some (J B 0)) l.length cap) l:=by
 obtain⟨xA,t,D,Y,h3,h4,_⟩:=h;exact⟨B,cap,xA,t,rfl,Nat.le_refl _,D,by omega,by omega,by unfold maxLen;omega,by omega,h4⟩
theorem own_rd {B:Nat}{w:World}{v:Value}{l:List Int}(h:Own B w v l):Rd w v l:=by
 obtain⟨g,cap,rfl,_,_,hl,hc,_⟩:=h;exact⟨_,cap,rfl,hl,fun _=>⟨g,0,rfl,hc⟩⟩
theorem zR {B:Nat}{a w:World}(h:Below B a w)(n:Nat):Below B a (w.drewN n):=h.trans ⟨rfl,rfl,rfl,Nat.le_refl _,fun _ _=>rfl⟩
def Bts (l:List Int):Prop:=∀x∈l,0<=x/\x<=255
theorem bts_get {l:List Int}(h:Bts l)(k:Nat):0<=l.getD k 0/\l.getD k 0<=255:=by
 by_cases hk:k<l.length
 ·have e:l.getD k 0=l[k]:=by simp[hk]
  rw[e];exact h _ (List.getElem_mem hk)
 ·simp[Nat.le_of_not_lt hk]
theorem rd_of_row {w:World}{a:Option Addr}{len cap:Nat}{zs:List Int}
  (h:(a=none/\len=0/\cap=0/\zs = []) \/ ∃x,a=some x/\len<=cap/\cap<=maxLen/\zs.length=cap/\(∀i,i<zs.length->w.cell? (x.add i)=some (.int .u8 (zs.getD i 0)))/\∀n∈zs,(Lit.int .u8 n).wf=true)
  (hl:len<=1073741824):(zs.take len).length=len/\Rd w (.slice a len cap) (zs.take len)/\Bts (zs.take len):=by
 rcases h with⟨rfl,rfl,rfl,rfl⟩|⟨x,rfl,D,_,hz,hc,hw⟩
 ·exact⟨rfl,⟨none,0,rfl,by simp,fun h=>absurd rfl h⟩,fun x hx=>by simp at hx⟩
 ·have xC:(zs.take len).length=len:=by rw[List.length_take];omega
  refine⟨xC,⟨some x,cap,by rw[xC],by omega,fun xr=>?_⟩,fun n hn=>bounds_u8 (hw n (List.mem_of_mem_take hn))⟩
  have hp:0<len:=by
   rcases Nat.eq_zero_or_pos len with h0|h0
   ·subst h0;simp at xr
   ·exact h0
  obtain⟨b,off,spot⟩:=x;have h0:=hc 0 (by omega);have hspot:spot=none:=by simpa[Addr.add] using World.cell?_spot h0
  subst hspot;refine⟨b,off,rfl,fun i hi=>?_⟩;rw[xC] at hi;have:=hc i (by omega);have e:((J b off):Addr).add i=(J b (off+i)):=by unfold Addr.add;split <;> simp_all
  rw[e] at this;rw[this];have e2:(zs.take len).getD i 0=zs.getD i 0:=by simp[hi]
  rw[e2]
theorem rd_below {B:Nat}{w w':World}{v:Value}{l:List Int}(h:Rd w v l)(E:Below B w w')(hB:w.heap.size<=B):Rd w' v l:=by
 obtain⟨a,cap,rfl,hl,hc⟩:=h;refine⟨a,cap,rfl,hl,fun xr=>?_⟩;obtain⟨b,off,rfl,xt⟩:=hc xr;exact⟨b,off,rfl,fun i hi=>(E.cell (p:=(J b (off+i))) (yK (yL w _ (xt i hi)) hB)).trans (xt i hi)⟩
theorem rd_len {w:World}{v:Value}{l:List Int}(h:Rd w v l):∃a cap,v = .slice a l.length cap:=by
 obtain⟨a,cap,rfl,_⟩:=h;exact⟨a,cap,rfl⟩
theorem take_get (l:List Int)(k:Nat)(h:k<l.length):l.take (k+1)=l.take k ++ [l.getD k 0]:=by
 rw[List.take_succ_eq_append_getElem h];simp[h]
theorem zc {C:Nat}{w w':World}{b o:Nat}{F:List Value}(h:w.rangeAt b o F)(E:Below C w w')(hC:b<C):w'.rangeAt b o F:=
 fun j v hv=>(E.cell (p:=(J b (o+j))) hC).trans (h j v hv)
theorem zl {C:Nat}{w w':World}{b o n:Nat}(h:w.there b o n)(E:Below C w w')(hC:b<C):w'.there b o n:=
 fun j hj=>⟨by rw[E.cell (p:=(J b (o+j))) hC];exact(h j hj).1,by rw[E.frozen (p:=(J b (o+j))) hC];exact(h j hj).2⟩
theorem zr {G:Option Nat}{w w':World}{b o:Nat}{F:List Value}(h:w.rangeAt b o F)(X:w.grownBy w' G)(E:b<w.heap.size)(xr:some b≠G):w'.rangeAt b o F:=
 fun j v hv=>(yR (a:=(J b (o+j))) (X.block b E xr)).trans (h j v hv)
theorem zK {G:Option Nat}{w w':World}{b o n:Nat}(h:w.there b o n)(X:w.grownBy w' G)(E:b<w.heap.size)(xr:some b≠G):w'.there b o n:=
 fun j hj=>⟨by rw[yR (a:=(J b (o+j))) (X.block b E xr)];exact(h j hj).1,by rw[World.frozen?_of_block (a:=(J b (o+j))) (X.block b E xr)];exact(h j hj).2⟩
theorem eF {w w':World}{B:Nat}{G:Option Nat}(h:Below B w w')(hB:w.heap.size<=B):w.grownBy w' G:=
 ⟨h.os,h.tape,h.output,h.size,fun k hk _=>h.block k (by omega)⟩
theorem lk {w w':World}{G:Option Nat}{B:Nat}(h:w.grownBy w' G)(hG:∀g,G=some g->B<=g)(hs:B<=w.heap.size):Below B w w':=
 ⟨h.os,h.tape,h.output,h.size,fun k hk=>h.block k (by omega) (fun e=>by have:=hG k e.symm;omega)⟩
section
variable {α:Type} (f:α->List Value) (sz:Nat)
def RdR (w:World)(v:Value)(l:List α):Prop:=
 ∃(a:Option Addr) (cap:Nat),v = .slice a l.length cap/\l.length<=1073741824 /\
  (l ≠ []->∃b off,a=some (J b off)/\b<w.heap.size/\∀i c,l[i]? = some c->w.rangeAt b (off+i*sz) (f c))
def OwnR (B:Nat)(w:World)(v:Value)(l:List α):Prop:=
 ∃(a:Option Addr) (cap:Nat),v = .slice a l.length cap/\l.length<=1073741824 /\
  (l ≠ []->∃g,a=some (J g 0)/\B<=g/\g<w.heap.size/\(∀i c,l[i]? = some c->w.rangeAt g (0+i*sz) (f c))/\w.there g 0 (l.length*sz))
variable {f sz}
theorem ownR_rd {B:Nat}{w:World}{v:Value}{l:List α}(h:OwnR f sz B w v l):RdR f sz w v l:=by
 obtain⟨a,cap,rfl,hl,h⟩:=h;refine⟨a,cap,rfl,hl,fun xr=>?_⟩;obtain⟨g,rfl,_,Y,h3,_⟩:=h xr;exact⟨g,0,rfl,Y,h3⟩
theorem zi {C:Nat}{w w':World}{v:Value}{l:List α}(h:RdR f sz w v l)(E:Below C w w')(hC:w.heap.size<=C):RdR f sz w' v l:=by
 obtain⟨a,cap,rfl,hl,h⟩:=h;refine⟨a,cap,rfl,hl,fun xr=>?_⟩;obtain⟨b,off,rfl,D,Y⟩:=h xr;exact⟨b,off,rfl,yK D E.size,fun i c hc=>zc (Y i c hc) E (yK D hC)⟩
theorem iX {B C:Nat}{w w':World}{v:Value}{l:List α}(h:OwnR f sz B w v l)(E:Below C w w')(hC:w.heap.size<=C):OwnR f sz B w' v l:=by
 obtain⟨a,cap,rfl,hl,h⟩:=h;refine⟨a,cap,rfl,hl,fun xr=>?_⟩;obtain⟨g,rfl,h0,D,Y,h3⟩:=h xr;exact⟨g,rfl,h0,yK D E.size,fun i c hc=>zc (Y i c hc) E (yK D hC),zl h3 E (yK D hC)⟩
theorem fX {B:Nat}{G:Option Nat}{w w':World}{v:Value}{l:List α}(h:OwnR f sz B w v l)(X:w.grownBy w' G)(hne':l ≠ []->v.ownBlock≠G):OwnR f sz B w' v l:=by
 obtain⟨a,cap,rfl,hl,h⟩:=h;refine⟨a,cap,rfl,hl,fun xr=>?_⟩;obtain⟨g,rfl,h0,D,Y,h3⟩:=h xr;exact⟨g,rfl,h0,yK D X.size,fun i c hc=>zr (Y i c hc) X D (hne' xr),zK h3 X D (hne' xr)⟩
theorem rdR_grown {G:Option Nat}{w w':World}{v:Value}{l:List α}(h:RdR f sz w v l)(X:w.grownBy w' G)(hG:∀g,G=some g->w.heap.size<=g):RdR f sz w' v l:=by
 obtain⟨a,cap,rfl,hl,h⟩:=h;refine⟨a,cap,rfl,hl,fun xr=>?_⟩;obtain⟨b,off,rfl,D,Y⟩:=h xr;exact⟨b,off,rfl,yK D X.size,fun i c hc=>zr (Y i c hc) X D (fun e=>by have:=hG b e.symm;omega)⟩
theorem gU {B:Nat}{w:World}{v:Value}{l:List α}(h:OwnR f sz B w v l)(xr:l ≠ []):∃g,v.ownBlock=some g/\B<=g/\g<w.heap.size:=by
 obtain⟨a,cap,rfl,hl,h⟩:=h;obtain⟨g,rfl,h0,D,_⟩:=h xr;exact⟨g,rfl,h0,D⟩
theorem zh {B:Nat}{w:World}(b:Nat)(E:B<=b):∀(vs:List Value) (o:Nat) (wr:World),Below B w wr->Below B w (wr.setCells b o vs)
 | [],_,_,h=>h
 | v::r,o,wr,h=>by rw[World.setCells];exact zh b E r (o+1) _ (h.setCell (show B<=((J b o):Addr).block from E) v)
theorem fO (b:Nat):∀(vs:List Value) (o:Nat) (wr:World),(wr.setCells b o vs).heap.size=wr.heap.size
 | [],_,_=>rfl
 | v::r,o,wr=>by rw[World.setCells,fO b r (o+1)];simp[World.setCell]
theorem gk {w:World}{g n t:Nat}{xA:Array Value}(X:w.heap[g]? = some (.cells xA t (0,0)))(hn:n<=xA.size):w.there g 0 n:=fun j hj =>
 ⟨by rw[cell_of_row w g (0+j) xA t (0,0) X,Array.getElem?_eq_getElem (by omega)];rfl,by simp[World.frozen?,X]⟩
theorem flat_get (hf:∀c,(f c).length=sz):∀(l:List α) (i j:Nat) (c:α),l[i]? = some c->j<sz->(l.flatMap f)[i*sz+j]? = (f c)[j]?
 | [],_,_,_,h,_=>by simp at h
 | a::l,0,j,c,h,hj=>by
  simp at h;subst h;rw[List.flatMap_cons,List.getElem?_append_left (by rw[hf];omega)];simp
 | a::l,i+1,j,c,h,hj=>by
  simp at h;rw[List.flatMap_cons,List.getElem?_append_right (by rw[hf,Nat.add_mul];omega),hf,<- flat_get hf l i j c h hj];congr 1;rw[Nat.add_mul];omega
theorem zY (hf:∀c,(f c).length=sz):∀(l:List α),(l.flatMap f).length=l.length*sz
 | []=>by simp
 | a::l=>by rw[List.flatMap_cons,yQ,hf,zY hf l,List.length_cons,Nat.add_mul];omega
theorem il {B e:Nat}{w:World}{v:Value}{l:List α}(hf:∀c,(f c).length=sz)(hl:l.length<=1073741824)(h:w.ownsRow B e sz v l.length (l.flatMap f)):OwnR f sz B w v l:=by
 rcases h.2 with⟨rfl,h0⟩|⟨g,cap,xA,rfl,E,X,ur,_,hcur,pH⟩
 ·exact⟨none,0,by rw[h0],hl,fun xr=>absurd (List.length_eq_zero_iff.1 h0) xr⟩
 ·have qS:=Nat.mul_le_mul_right sz ur;refine⟨_,cap,rfl,hl,fun _=>⟨g,rfl,E,(yZ.1 X).1,fun i c hc j u hu=>?_,gk X (by omega)⟩⟩;have hj:j<sz:=by rw[<- hf c];exact(yH.1 hu).1
  have Y:=flat_get hf l i j c hc hj
  have xM:i*sz+j<l.length*sz:=by
   have:=Nat.mul_le_mul_right sz (show i+1<=l.length from(yH.1 hc).1);rw[Nat.add_mul] at this;omega
  rw[<- pH,List.getElem?_take,if_pos xM] at Y;rw[cell_of_row w g _ xA e (0,0) X,Nat.zero_add];simpa using Y.trans hu
end
def qsF (k:Int):Nat->List Od->List Nat
  | _,[]=>[]
  | n,o::r=>if o.ticks=k then n::qsF k (n+1) r else qsF k (n+1) r
theorem qsF_snoc (k:Int)(o:Od):∀(l:List Od) (n:Nat),qsF k n (l ++ [o])=qsF k n l++(if o.ticks=k then[n+l.length] else[])
  | [],n=>by simp[qsF]
  | a::l,n=>by
    rw[List.cons_append,qsF,qsF_snoc k o l,qsF];have:n+1+l.length=n+(a::l).length:=by simp;omega
    rw[this];split <;> simp
theorem fS (k:Int):∀(l:List Od) (n a:Nat),a∈qsF k n l->n<=a/\a<n+l.length/\∃o,l[a-n]? = some o/\o.ticks=k
  | [],n,a,h=>by simp[qsF] at h
  | b::l,n,a,h=>by
    rw[qsF] at h;split at h
    · next E =>
      rcases List.mem_cons.1 h with rfl|h
      · exact⟨Nat.le_refl _,by simp,b,by simp,E⟩
      · obtain⟨D,Y,o,h3,h4⟩:=fS k l (n+1) a h;refine⟨by omega,by simp;omega,o,?_,h4⟩;rw[show a-n=(a-(n+1))+1 by omega];simpa using h3
    · obtain⟨D,Y,o,h3,h4⟩:=fS k l (n+1) a h;refine⟨by omega,by simp;omega,o,?_,h4⟩;rw[show a-n=(a-(n+1))+1 by omega];simpa using h3
theorem qsF_nodup (k:Int):∀(l:List Od) (n:Nat),(qsF k n l).Nodup
  | [],n=>by simp[qsF]
  | b::l,n=>by
    rw[qsF];split
    · exact List.nodup_cons.2 ⟨fun h=>by have:=(fS k l (n+1) n h).1;omega,qsF_nodup k l _⟩
    · exact qsF_nodup k l _
theorem qsF_nil (k:Int):∀(l:List Od) (n:Nat),(∀o∈l,o.ticks≠k)->qsF k n l = []
  | [],_,_=>rfl
  | b::l,n,h=>by rw[qsF,if_neg (h b (by simp)),qsF_nil k l _ (fun o Q=>h o (by simp[Q]))]
theorem qsF_map (k:Int)(f:Nat->Od):∀(l:List Od) (n:Nat),(∀i o,l[i]? = some o->f (n+i)=o)->(qsF k n l).map f=l.filter (fun o=>decide (o.ticks=k))
  | [],_,_=>rfl
  | b::l,n,h=>by
    have ih:=qsF_map k f l (n+1) (fun i o Q=>by rw[show n+1+i=n+(i+1) by omega];exact h (i+1) o (by simpa using Q));have h0:f n=b:=h 0 b (by simp);rw[qsF,List.filter_cons]
    by_cases E:b.ticks=k
    · simp[E,ih,h0]
    · simp[E,ih]
def qs (seq:List Od)(k:Int):List Nat:=qsF k 1 seq
def atK (seq:List Od)(k:Int):List Od:=seq.filter (fun o=>decide (o.ticks=k))
def sumQ:List Od->Int
  | []=>0
  | o::r=>o.left+sumQ r
theorem sumQ_snoc (o:Od):∀l:List Od,sumQ (l ++ [o])=sumQ l+o.left
  | []=>by simp[sumQ]
  | a::l=>by rw[List.cons_append,sumQ,sumQ_snoc o l,sumQ];omega
def Chain (yg:Nat->Nat):Nat->List Nat->Prop
  | v,[]=>v=0
  | v,a::r=>v=a/\0<a/\Chain yg (yg a) r
theorem iS {y y':Nat->Nat}:∀ {l:List Nat} {v:Nat},(∀a∈l,y' a=y a)->Chain y v l->Chain y' v l
  | [],_,_,h=>h
  | a::r,v,hc,⟨D,Y,h3⟩=>⟨D,Y,by rw[hc a (by simp)];exact iS (fun b E=>hc b (by simp[E])) h3⟩
theorem chain_snoc {y:Nat->Nat}{n z:Nat}(hn:0<n)(hy:y n=0):∀ {l:List Nat} {v:Nat},Chain y v l->l.Nodup->l.getLast? = some z->n ∉ l->Chain (upd y z n) v (l ++ [n])
  | [],_,_,_,hz,_=>by simp at hz
  | [a],v,⟨D,Y,h3⟩,_,hz,xr=>by
    simp at hz;subst hz;have hna:n≠a:=fun e=>xr (by simp[e]);exact⟨D,Y,by rw[zo],hn,by rw[zk _ _ hna,hy];rfl⟩
  | a::b::r,v,⟨D,Y,h3⟩,hd,hz,xr=>by
    have hd':=List.nodup_cons.1 hd;have hz':(b::r).getLast? = some z:=by rw[List.getLast?_cons_cons] at hz;exact hz
    have hza:a≠z:=fun e=>hd'.1 (e ▸ List.mem_of_getLast? hz');refine⟨D,Y,?_⟩;rw[zk _ _ hza];exact chain_snoc hn hy h3 hd'.2 hz' (fun h=>xr (by simp[h]))
structure QH (S:TS) (sd:Int) (seq:List Od) (h:Nat):Prop where
  side:(S.nd h).side=sd
  ne:qs seq (S.nd h).ticks ≠ []
  chain:Chain (fun i=>(S.qo i).yg) (S.nd h).el (qs seq (S.nd h).ticks)
  last:(qs seq (S.nd h).ticks).getLast? = some (S.nd h).yo
  qty:(S.nd h).qty=sumQ (atK seq (S.nd h).ticks)
  cnt:(S.nd h).count=(atK seq (S.nd h).ticks).length
structure QI (S:TS) (t:Tr) (sd:Int) (seq:List Od):Prop where
  oc:S.oc=seq.length
  od:∀i o,seq[i]? = some o->(S.qo (1+i)).od=o
  fresh:∀i,S.oc<i->S.qo i=zQo
  q:∀h∈t.hs,QH S sd seq h
  cover:∀o∈seq,∃h∈t.hs,(S.nd h).ticks=o.ticks
theorem ti_zero (s:Bool):TI s zTS .nil:=⟨rfl,by simp[Tr.hs],by simp[Tr.hs],rfl,by simp[Tr.hs],fun _ _=>rfl⟩
theorem qi_zero (sd:Int):QI zTS .nil sd []:=⟨rfl,by simp,fun _ _=>rfl,by simp[Tr.hs],by simp⟩
def TS.lay (S:TS)(o:Od):TS:={ S with oc:=S.oc+1,qo:=upd S.qo (S.oc+1) ⟨o,0⟩ }
def TS.link (S:TS)(h n:Nat)(lf:Int):TS:=
  { S with nd:=upd S.nd h { S.nd h with el:=if (S.nd h).yo=0 then n else(S.nd h).el,yo:=n,qty:=(S.nd h).qty+lf,count:=(S.nd h).count+1 },
           qo:=if (S.nd h).yo=0 then S.qo else upd S.qo (S.nd h).yo { S.qo (S.nd h).yo with yg:=n } }
theorem ti_lay {s:Bool}{S:TS}{t:Tr}(o:Od)(h:TI s S t):TI s (S.lay o) t:=⟨h.rep,h.nodup,h.range,h.len,h.sorted,h.fresh⟩
theorem lH (S:TS)(h n:Nat)(lf:Int)(a:Nat):((S.link h n lf).nd a).ticks=(S.nd a).ticks:=by
  simp only[TS.link,upd];split <;> simp_all
theorem link_tree (S:TS)(h n:Nat)(lf:Int)(a:Nat):((S.link h n lf).nd a).be=(S.nd a).be/\((S.link h n lf).nd a).wo=(S.nd a).wo:=by
  simp only[TS.link,upd];split <;> simp_all
theorem ti_link {s:Bool}{S:TS}{t:Tr}{h:Nat}(n:Nat)(lf:Int)(hi:TI s S t)(hh:h∈t.hs):TI s (S.link h n lf) t:=by
  refine⟨ic (fun a _=>link_tree S h n lf a) hi.rep,hi.nodup,hi.range,hi.len,hi.sorted.imp fun {a b} hab=>?_,fun a ha=>?_⟩
  · rw[lH,lH];exact hab
  · have D:=(hi.range h hh).2;have Y:S.lc<a:=ha;show upd _ _ _ _ = _;rw[zk _ _ (by omega)];exact hi.fresh a ha
theorem lS {y:Nat->Nat}:∀ {l:List Nat} {v z:Nat},Chain y v l->l.getLast? = some z->0<z
  | [],_,_,_,h=>by simp at h
  | [a],_,_,⟨_,Y,_⟩,h=>by simp at h;omega
  | a::b::r,_,_,⟨_,_,h3⟩,h=>lS h3 (by rw[List.getLast?_cons_cons] at h;exact h)
theorem iu (seq:List Od)(o:Od)(k:Int):qs (seq ++ [o]) k=qs seq k++(if o.ticks=k then[1+seq.length] else[]):=qsF_snoc k o seq 1
theorem atK_snoc (seq:List Od)(o:Od)(k:Int):atK (seq ++ [o]) k=atK seq k++(if o.ticks=k then[o] else[]):=by
  unfold atK;rw[List.filter_append];congr 1
  by_cases h:o.ticks=k <;> simp[h]
theorem qi_link {s:Bool}{S:TS}{t:Tr}{sd:Int}{seq:List Od}{o:Od}{h:Nat}(hi:TI s S t)(hoc:S.oc=seq.length+1)
    (hod:∀i o',(seq ++ [o])[i]? = some o'->(S.qo (1+i)).od=o') (oD:∀i,S.oc<i->S.qo i=zQo) (hyn:(S.qo (1+seq.length)).yg=0)
    (hq:∀a∈t.hs,a≠h->QH S sd seq a) (hcov:∀o∈seq,∃h∈t.hs,(S.nd h).ticks=o.ticks)
    (hh:h∈t.hs) (hk:(S.nd h).ticks=o.ticks)
    (hH:QH S sd seq h\/((∀o'∈seq,o'.ticks≠o.ticks)/\S.nd h = { zNd with side:=sd,ticks:=o.ticks,be:=(S.nd h).be,wo:=(S.nd h).wo })) :
    QI (S.link h (1+seq.length) o.left) t sd (seq ++ [o]):=by
  have hqlt:∀k a,a∈qs seq k->a<1+seq.length/\0<a:=fun k a ha=>by
    obtain⟨D,Y,_⟩:=fS k seq 1 a ha;omega
  have hyo:(S.nd h).yo=0\/(0<(S.nd h).yo/\(S.nd h).yo∈qs seq o.ticks):=by
    rcases hH with hH|⟨_,hz⟩
    · have:=hH.last;rw[hk] at this;exact .inr ⟨lS hH.chain hH.last,List.mem_of_getLast? this⟩
    · rw[hz];exact .inl rfl
  have hodk:∀i,((S.link h (1+seq.length) o.left).qo i).od=(S.qo i).od:=fun i=>by
    simp only[TS.link];split
    · rfl
    · simp only[upd];split <;> simp_all
  refine⟨?_,fun i o' qW=>by rw[hodk];exact hod i o' qW,fun i qW=>?_,fun a ha=>?_,fun o' vW=>?_⟩
  · show S.oc = _;simp[hoc]
  · have qW:S.oc<i:=qW;simp only[TS.link];split
    · exact oD i qW
    · rcases hyo with h0|⟨h0,D⟩
      · contradiction
      · rw[zk _ _ (by have:=hqlt _ _ D;omega)];exact oD i qW
  · by_cases hah:a=h
    · subst hah;have hnd:(S.link a (1+seq.length) o.left).nd a = { S.nd a with el:=if (S.nd a).yo=0 then(1+seq.length) else(S.nd a).el,yo:=(1+seq.length),qty:=(S.nd a).qty+o.left,count:=(S.nd a).count+1 }:=zo _ _ _
      rcases hH with hH|⟨vN,hz⟩
      · have jO:=lS hH.chain hH.last;have bx:(S.nd a).yo≠0:=by omega
        have hqq:(S.link a (1+seq.length) o.left).qo=upd S.qo (S.nd a).yo { S.qo (S.nd a).yo with yg:=(1+seq.length) }:=by simp[TS.link,bx]
        constructor
        · rw[hnd];exact hH.side
        · rw[hnd];show qs (seq ++ [o]) (S.nd a).ticks ≠ [];rw[iu,if_pos hk.symm];simp
        · rw[hnd];show Chain _ (if (S.nd a).yo=0 then(1+seq.length) else(S.nd a).el) (qs (seq ++ [o]) (S.nd a).ticks)
          rw[if_neg bx,iu,if_pos hk.symm];have hc:=chain_snoc (n:=1+seq.length) (by omega) hyn hH.chain (qsF_nodup _ _ _) hH.last (fun h=>by have:=(hqlt _ _ h).1;omega);refine iS (fun b _=>?_) hc;rw[hqq];simp only[upd];split <;> simp_all
        · rw[hnd];show(qs (seq ++ [o]) (S.nd a).ticks).getLast? = some (1+seq.length);rw[iu,if_pos hk.symm];simp
        · rw[hnd];show(S.nd a).qty+o.left=sumQ (atK (seq ++ [o]) (S.nd a).ticks);rw[atK_snoc,if_pos hk.symm,sumQ_snoc,hH.qty]
        · rw[hnd];show(S.nd a).count+1=((atK (seq ++ [o]) (S.nd a).ticks).length:Int);rw[atK_snoc,if_pos hk.symm,hH.cnt];simp
      · have hyz:(S.nd a).yo=0:=by rw[hz];rfl
        have hqz:(S.nd a).qty=0:=by rw[hz];rfl
        have hcz:(S.nd a).count=0:=by rw[hz];rfl
        have km:(S.nd a).side=sd:=by rw[hz]
        have hqn:qs seq (S.nd a).ticks = []:=by rw[hk];exact qsF_nil _ _ _ vN
        have han:atK seq (S.nd a).ticks = []:=by rw[hk];unfold atK;rw[List.filter_eq_nil_iff];intro b E;simpa using vN b E
        have hqq:(S.link a (1+seq.length) o.left).qo=S.qo:=by simp[TS.link,hyz]
        constructor
        · rw[hnd];exact km
        · rw[hnd];show qs (seq ++ [o]) (S.nd a).ticks ≠ [];rw[iu,if_pos hk.symm];simp
        · rw[hnd];show Chain _ (if (S.nd a).yo=0 then(1+seq.length) else(S.nd a).el) (qs (seq ++ [o]) (S.nd a).ticks)
          rw[if_pos hyz,iu,if_pos hk.symm,hqn,hqq];exact⟨rfl,by omega,hyn⟩
        · rw[hnd];show(qs (seq ++ [o]) (S.nd a).ticks).getLast? = some (1+seq.length);rw[iu,if_pos hk.symm];simp
        · rw[hnd];show(S.nd a).qty+o.left=sumQ (atK (seq ++ [o]) (S.nd a).ticks);rw[atK_snoc,if_pos hk.symm,sumQ_snoc,hqz,han];rfl
        · rw[hnd];show(S.nd a).count+1=((atK (seq ++ [o]) (S.nd a).ticks).length:Int);rw[atK_snoc,if_pos hk.symm,hcz,han];simp
    · have hqa:=hq a ha hah;have hnd:(S.link h (1+seq.length) o.left).nd a=S.nd a:=zk _ _ hah
      have xr:¬ o.ticks=(S.nd a).ticks:=by
        intro e;have hp:=hi.sorted
        have:∀ {l:List Nat},l.Pairwise (fun a b=>bt s (S.nd a).ticks (S.nd b).ticks)->a∈l->h∈l->False:=by
          intro l
          induction l with
          | nil=>intro _ h;simp at h
          | cons x r ih =>
            intro hp D Y;obtain⟨p1,p2⟩:=List.pairwise_cons.1 hp;rcases List.mem_cons.1 D with rfl|h1' <;> rcases List.mem_cons.1 Y with Y|dD
            · exact hah Y.symm
            · have:=p1 h dD;rw[hk,e] at this;exact bt_irr _ _ this
            · subst Y;have:=p1 a h1';rw[hk,e] at this;exact bt_irr _ _ this
            · exact ih p2 h1' dD
        exact this hp ha hh
      have hqs:qs (seq ++ [o]) (S.nd a).ticks=qs seq (S.nd a).ticks:=by rw[iu,if_neg xr,List.append_nil]
      have hak:atK (seq ++ [o]) (S.nd a).ticks=atK seq (S.nd a).ticks:=by rw[atK_snoc,if_neg xr,List.append_nil]
      constructor
      · rw[hnd];exact hqa.side
      · rw[hnd,hqs];exact hqa.ne
      · rw[hnd,hqs];refine iS (fun b E=>?_) hqa.chain;rcases hyo with h0|⟨h0,D⟩
        · simp[TS.link,h0]
        · have hbne:b≠(S.nd h).yo:=by
            rintro rfl;obtain⟨_,_,o1,e1,e2⟩:=fS _ _ _ _ E;obtain⟨_,_,o2,e3,e4⟩:=fS _ _ _ _ D;rw[e1] at e3;obtain rfl:=Option.some.inj e3;exact xr (e4.symm.trans e2)
          simp only[TS.link];split
          · rfl
          · rw[zk _ _ hbne]
      · rw[hnd,hqs];exact hqa.last
      · rw[hnd,hak];exact hqa.qty
      · rw[hnd,hak];exact hqa.cnt
  · rcases List.mem_append.1 vW with vW|vW
    · obtain⟨b,D,Y⟩:=hcov o' vW;exact⟨b,D,by rw[lH];exact Y⟩
    · simp at vW;subst vW;exact⟨h,hh,by rw[lH];exact hk⟩
theorem add_found {s:Bool}{S:TS}{t:Tr}{sd:Int}{seq:List Od}{o:Od}{h:Nat}(hi:TI s S t)(hq:QI S t sd seq)(hh:h∈t.hs)(hk:(S.nd h).ticks=o.ticks) :
    TI s ((S.lay o).link h (1+seq.length) o.left) t/\QI ((S.lay o).link h (1+seq.length) o.left) t sd (seq ++ [o]):=by
  have hqk:∀i,i≠1+seq.length->(S.lay o).qo i=S.qo i:=fun i qW=>zk _ _ (by rw[hq.oc];omega);have hqn:(S.lay o).qo (1+seq.length)=⟨o,0⟩:=by simp[TS.lay,upd,hq.oc];omega
  have hqh:∀a∈t.hs,QH (S.lay o) sd seq a:=fun a ha=>by
    have:=hq.q a ha;exact⟨this.side,this.ne,iS (fun b E=>by rw[hqk b (by have:=(fS _ _ _ _ E).2.1;omega)]) this.chain,this.last,this.qty,this.cnt⟩
  refine⟨ti_link _ _ (ti_lay o hi) hh,qi_link (ti_lay o hi) (by show S.oc+1 = _;rw[hq.oc]) (fun i o' qW=>?_) (fun i qW=>?_) (by rw[hqn]) (fun a ha _=>hqh a ha) hq.cover hh hk (.inl (hqh h hh))⟩
  · by_cases xM:i<seq.length
    · rw[List.getElem?_append_left xM] at qW;rw[hqk _ (by omega)];exact hq.od i o' qW
    · have hlt2:i<(seq ++ [o]).length:=(yH.1 qW).1;have:i=seq.length:=by simp at hlt2;omega
      subst this;simp at qW;subst qW;rw[hqn]
  · have qW:S.oc+1<i:=qW;rw[hqk _ (by rw[<- hq.oc];omega)];exact hq.fresh i (by omega)
theorem add_new {s:Bool}{S:TS}{t:Tr}{seq:List Od}{o:Od}{c:Ctx}{u:Tr}(hi:TI s S t)(hq:QI S t o.side seq)(hw:Way s (S.lay o) t o.ticks c u)(h0:(S.lay o).rd (dP c)=0) :
    TI s (((S.lay o).grow (dP c) o.side o.ticks).link (S.lc+1) (1+seq.length) o.left) (plug c (.node (S.lc+1) .nil .nil)) /\
    QI (((S.lay o).grow (dP c) o.side o.ticks).link (S.lc+1) (1+seq.length) o.left) (plug c (.node (S.lc+1) .nil .nil)) o.side (seq ++ [o])/\(∀o'∈seq,o'.ticks≠o.ticks):=by
  obtain⟨X,ht,vN⟩:=ti_grow (sd:=o.side) (ti_lay o hi) hw h0;have X:TI s ((S.lay o).grow (dP c) o.side o.ticks) (plug c (.node (S.lc+1) .nil .nil)):=X;have hhs:(plug c (.node (S.lc+1) .nil .nil)).hs=O c++(S.lc+1)::cr c:=by rw[gV];simp[Tr.hs]
  have ag:S.lc+1 ∉ O c++cr c:=by
    rw[<- ht];intro hm;have:=(hi.range _ hm).2;omega
  have hqo:((S.lay o).grow (dP c) o.side o.ticks).qo=(S.lay o).qo:=(wr_same (S.lay o) _ _).2.2;have hqk:∀i,i≠1+seq.length->(S.lay o).qo i=S.qo i:=fun i qW=>zk _ _ (by rw[hq.oc];omega);have hqn:(S.lay o).qo (1+seq.length)=⟨o,0⟩:=by simp[TS.lay,upd,hq.oc];omega
  have hag:∀b∈t.hs,((S.lay o).grow (dP c) o.side o.ticks).nd b=((S.lay o).wr (S.lc+1) (dP c)).nd b:=fun b E=>zk _ _ (fun e=>ag (by rw[<- ht];exact e ▸ E))
  have vr:∀b,b∈(plug c (.node (S.lc+1) .nil .nil)).hs->b≠S.lc+1->b∈t.hs:=fun b E xr=>by
    rw[hhs] at E;rw[ht];simp only[List.mem_append,List.mem_cons] at E |-;rcases E with h|h|h
    · exact .inl h
    · exact absurd h xr
    · exact .inr h
  have hnos:∀o'∈seq,o'.ticks≠o.ticks:=fun o' vW e=>by
    obtain⟨b,D,Y⟩:=hq.cover o' vW;exact vN b D (Y.trans e)
  have jn:S.lc+1∈(plug c (.node (S.lc+1) .nil .nil)).hs:=by rw[hhs];simp
  have hnd:((S.lay o).grow (dP c) o.side o.ticks).nd (S.lc+1) = { zNd with side:=o.side,ticks:=o.ticks }:=by
    show upd _ _ _ _ = _
    have D:((S.lay o).wr (S.lc+1) (dP c)).nd (S.lc+1)=zNd:=by
      rw[wr_nd_out (S.lay o) _ c _ ag];exact hi.fresh _ (by omega)
    have Y:(S.lay o).lc+1=S.lc+1:=rfl;rw[Y,zo,D];rfl
  refine⟨ti_link _ _ X jn,qi_link X ?_ (fun i o' qW=>?_) (fun i qW=>?_) (by rw[hqo,hqn]) (fun a ha xr=>?_) (fun o' vW=>?_) jn (by rw[hnd]) (.inr ⟨hnos,by rw[hnd]⟩),hnos⟩
  · show((S.lay o).wr _ _).oc = _;rw[(wr_same (S.lay o) _ _).2.1];show S.oc+1 = _;rw[hq.oc]
  · rw[hqo]
    by_cases xM:i<seq.length
    · rw[List.getElem?_append_left xM] at qW;rw[hqk _ (by omega)];exact hq.od i o' qW
    · have hlt2:i<(seq ++ [o]).length:=(yH.1 qW).1;have:i=seq.length:=by simp at hlt2;omega
      subst this;simp at qW;subst qW;rw[hqn]
  · have qW:((S.lay o).wr (S.lc+1) (dP c)).oc<i:=qW;rw[(wr_same (S.lay o) _ _).2.1] at qW;have qW:S.oc+1<i:=qW;rw[hqo,hqk _ (by rw[<- hq.oc];omega)];exact hq.fresh i (by omega)
  · have E:=vr a ha xr;have hQ:=hq.q a E;obtain⟨r1,r2,r3,r4,r5⟩:=wr_nd_rest (S.lay o) (S.lc+1) (dP c) a;have r6:=lX (S.lay o) (S.lc+1) (dP c) a;constructor
    · rw[hag a E,r1];exact hQ.side
    · rw[hag a E,r6];exact hQ.ne
    · rw[hag a E,r6,r4,hqo];exact iS (fun b E=>by rw[hqk b (by have:=(fS _ _ _ _ E).2.1;omega)]) hQ.chain
    · rw[hag a E,r6,r5];exact hQ.last
    · rw[hag a E,r6,r2];exact hQ.qty
    · rw[hag a E,r6,r3];exact hQ.cnt
  · obtain⟨b,D,Y⟩:=hq.cover o' vW;refine⟨b,?_,?_⟩
    · rw[hhs];rw[ht] at D;simp only[List.mem_append,List.mem_cons] at D |-;rcases D with h|h <;> simp[h]
    · rw[hag b D,lX];exact Y
theorem add_ready {s:Bool}{S S3:TS}{t:Tr}{seq:List Od}{o:Od}{h:Nat}(hi:TI s S t)(hq:QI S t o.side seq)
    (hc:(h∈t.hs/\((S.lay o).nd h).ticks=o.ticks/\S3=S.lay o)\/(∃c u,Way s (S.lay o) t o.ticks c u/\(S.lay o).rd (dP c)=0/\h=(S.lay o).lc+1/\S3=(S.lay o).grow (dP c) o.side o.ticks)) :
    (S3.nd h).yo<1+seq.length/\(S3.nd h).qty=sumQ (atK seq o.ticks)/\(S3.nd h).count=(atK seq o.ticks).length/\S3.lc<=S.lc+1/\h<=S.lc+1 /\
      ∃t',TI s (S3.link h (1+seq.length) o.left) t'/\QI (S3.link h (1+seq.length) o.left) t' o.side (seq ++ [o]):=by
  rcases hc with⟨hh,hk,rfl⟩|⟨c,u,hw,h0,rfl,rfl⟩
  · have hQ:=hq.q h hh;have aC:(S.nd h).ticks=o.ticks:=hk;have hm:=List.mem_of_getLast? hQ.last;have hr:=hi.range h hh;refine⟨(fS _ _ _ _ hm).2.1,by rw[<- aC];exact hQ.qty,by rw[<- aC];exact hQ.cnt,Nat.le_succ _,by omega,t,?_⟩;exact add_found hi hq hh hk
  · obtain⟨D,Y,h3⟩:=add_new hi hq hw h0;obtain⟨X,ht,vN⟩:=ti_grow (sd:=o.side) (ti_lay o hi) hw h0
    have ag:S.lc+1 ∉ O c++cr c:=by
      rw[<- ht];intro hm;have:=(hi.range _ hm).2;omega
    have hnd:((S.lay o).grow (dP c) o.side o.ticks).nd (S.lc+1) = { zNd with side:=o.side,ticks:=o.ticks }:=by
      show upd _ _ _ _ = _
      have D:((S.lay o).wr (S.lc+1) (dP c)).nd (S.lc+1)=zNd:=by
        rw[wr_nd_out (S.lay o) _ c _ ag];exact hi.fresh _ (by omega)
      have Y:(S.lay o).lc+1=S.lc+1:=rfl;rw[Y,zo,D];rfl
    have qw:(S.lay o).lc+1=S.lc+1:=rfl;have hak:atK seq o.ticks = []:=by unfold atK;rw[List.filter_eq_nil_iff];intro b E;simpa using h3 b E
    rw[qw,hnd,hak];exact⟨by show 0 < _;omega,rfl,rfl,Nat.le_refl _,Nat.le_refl _,_,D,Y⟩
def nanB (x:Nat):Bool:=FloatKind.f64.format.order x x != some Ordering.eq
theorem datum_self (d:Ieee.Datum)(h:¬ d.isNaN=true):d.order d=some Ordering.eq:=by
 cases d with
 | nan s f=>simp[Ieee.Datum.isNaN] at h
 | infinity s=>cases s <;> rfl
 | number s m i=>simp[Ieee.Datum.order,Std.ReflCmp.compare_self]
def ahd (s:Bool)(a b:Od):Prop:=bt s a.ticks b.ticks\/(a.ticks=b.ticks/\a.id<b.id)
theorem ahd_irr (s:Bool)(a:Od):¬ ahd s a a:=by
 rintro(h|h)
 ·exact bt_irr _ _ h
 ·omega
theorem ahd_trans {s:Bool}{a b c:Od}(D:ahd s a b)(Y:ahd s b c):ahd s a c:=by
 rcases D with D|⟨e1,D⟩ <;> rcases Y with Y|⟨e2,Y⟩
 ·exact .inl (bt_trans D Y)
 ·exact .inl (e2 ▸ D)
 ·exact .inl (e1 ▸ Y)
 ·exact .inr ⟨e1.trans e2,by omega⟩
theorem ahd_asymm {s:Bool}{a b:Od}(D:ahd s a b):¬ ahd s b a:=fun Y=>ahd_irr s a (ahd_trans D Y)
theorem ahd_total {s:Bool}{a b:Od}(h:a.id≠b.id):ahd s a b\/ahd s b a:=by
 rcases bt_total s a.ticks b.ticks with D|D|D
 ·exact .inl (.inl D)
 ·rcases Int.lt_or_gt_of_ne h with Y|Y
  ·exact .inl (.inr ⟨D,Y⟩)
  ·exact .inr (.inr ⟨D.symm,Y⟩)
 ·exact .inr (.inl D)
def eo (l:List Od):Prop:=l.Pairwise (fun a b=>a.id<b.id)
def zv (l:List Od)(sd:Int):List Od:=l.filter (fun o=>decide (o.side=sd))
theorem ofSide_snoc (l:List Od)(k:Nat)(c:Od)(h:l[k]? = some c):zv (l.take (k+1)) c.side=zv (l.take k) c.side ++ [c]:=by
 obtain⟨hk,rfl⟩:=yH.1 h;unfold zv;rw[List.take_succ_eq_append_getElem hk,List.filter_append];simp
theorem ofSide_skip (l:List Od)(k:Nat)(c:Od){sd:Int}(h:l[k]? = some c)(hs:¬ c.side=sd):zv (l.take (k+1)) sd=zv (l.take k) sd:=by
 obtain⟨hk,rfl⟩:=yH.1 h;unfold zv;rw[List.take_succ_eq_append_getElem hk,List.filter_append];simp[hs]
theorem perm_split (p:Od->Bool):∀l:List Od,List.Perm (l.filter p++l.filter (fun o=>!p o)) l
 | []=>by simp
 | a::l=>by
  have ih:=perm_split p l
  by_cases h:p a=true
  ·simp only[List.filter_cons,h,if_true,Bool.not_true,Bool.false_eq_true,if_false,List.cons_append];exact ih.cons a
  ·simp only[Bool.not_eq_true] at h;simp only[List.filter_cons,h,Bool.false_eq_true,if_false,Bool.not_false,if_true];exact List.perm_middle.trans (ih.cons a)
theorem flat_perm:∀(T:List Int) (seq:List Od),T.Nodup->(∀o∈seq,o.ticks∈T)->List.Perm (T.flatMap (atK seq)) seq
 | [],seq,_,h=>by
  cases seq with
  | nil=>simp
  | cons a r=>exact absurd (h a (by simp)) (by simp)
 | k::T,seq,hd,h=>by
  have hd':=List.nodup_cons.1 hd
  have e:T.flatMap (atK seq)=T.flatMap (atK (seq.filter (fun o=>!decide (o.ticks=k)))):=by
   rw[List.flatMap_def,List.flatMap_def];congr 1;refine List.map_congr_left fun k' aC=>?_;unfold atK;rw[List.filter_filter];refine List.filter_congr fun o _=>?_
   by_cases D:o.ticks=k'
   ·have:¬ o.ticks=k:=fun e=>hd'.1 (by rw[<- e,D];exact aC);simp[D];rw[<- D];exact this
   ·simp[D]
  rw[List.flatMap_cons,e];refine(List.Perm.append_left _ (flat_perm T _ hd'.2 (fun o Q=>?_))).trans (perm_split _ seq);simp at Q;rcases List.mem_cons.1 (h o Q.1) with D|D
  ·exact absurd D Q.2
  ·exact D
theorem flat_sorted {s:Bool}:∀ {T:List Int} {seq:List Od},T.Pairwise (bt s)->eo seq->(T.flatMap (atK seq)).Pairwise (ahd s)
 | [],_,_,_=>by simp
 | k::T,seq,hT,hr=>by
  obtain⟨p1,p2⟩:=List.pairwise_cons.1 hT;rw[List.flatMap_cons,List.pairwise_append];refine⟨?_,flat_sorted p2 hr,fun a ha b E=>?_⟩
  ·have D:(atK seq k).Pairwise (fun a b=>a.id<b.id):=List.Pairwise.sublist List.filter_sublist hr;refine D.imp_of_mem fun {a b} ha E hab=>.inr ⟨?_,hab⟩;simp[atK] at ha E;rw[ha.2,E.2]
  ·simp only[List.mem_flatMap] at E;obtain⟨k',D,Y⟩:=E;simp[atK] at ha Y;exact .inl (by rw[ha.2,Y.2];exact p1 k' D)
theorem bt_nodup {s:Bool}{T:List Int}(h:T.Pairwise (bt s)):T.Nodup:=by
 unfold List.Nodup;refine h.imp fun {a b} hab=>?_;rintro rfl;exact bt_irr s a hab
structure IsT (s:Bool) (seq:List Od) (T:List Int):Prop where
 sorted:T.Pairwise (bt s)
 mem:∀k,k∈T ↔ ∃o∈seq,o.ticks=k
theorem isT_of {s:Bool}{S:TS}{t:Tr}{sd:Int}{seq:List Od}(hi:TI s S t)(hq:QI S t sd seq):IsT s seq (t.hs.map fun h=>(S.nd h).ticks):=by
 refine⟨?_,fun k=>⟨fun hk=>?_,?_⟩⟩
 ·rw[List.pairwise_map];exact hi.sorted
 ·obtain⟨h,D,rfl⟩:=List.mem_map.1 hk;have:=(hq.q h D).ne;obtain⟨a,ha⟩:=List.exists_mem_of_ne_nil _ this;obtain⟨_,_,o,h3,h4⟩:=fS _ _ _ _ ha;exact⟨o,yP h3,h4⟩
 ·rintro⟨o,Q,rfl⟩;obtain⟨h,D,Y⟩:=hq.cover o Q;exact List.mem_map.2 ⟨h,D,Y⟩
def nlevR:List Od->Nat
 | []=>0
 | x::r=>nlevR r+if ∃y∈r,y.side=x.side/\y.ticks=x.ticks then 0 else 1
theorem nlevR_eq:∀(l:List Od) (zb B:List Int),zb.Nodup->B.Nodup->(∀o∈l,o.side=1\/o.side=2)->(∀k,k∈zb ↔ ∃o∈l,o.side=1/\o.ticks=k)->(∀k,k∈B ↔ ∃o∈l,o.side=2/\o.ticks=k)->nlevR l=zb.length+B.length
 | [],zb,B,_,_,_,hA,hB=>by
  have a0:zb = []:=List.eq_nil_iff_forall_not_mem.2 fun k hk=>by obtain⟨o,h,_⟩:=(hA k).1 hk;simp at h
  have b0:B = []:=List.eq_nil_iff_forall_not_mem.2 fun k hk=>by obtain⟨o,h,_⟩:=(hB k).1 hk;simp at h
  rw[a0,b0];rfl
 | x::l,zb,B,dA,dB,hs,hA,hB=>by
  rw[nlevR];have hs':∀o∈l,o.side=1\/o.side=2:=fun o Q=>hs o (by simp[Q])
  by_cases he:∃y∈l,y.side=x.side/\y.ticks=x.ticks
  ·rw[if_pos he];obtain⟨y,hy,e1,e2⟩:=he;refine nlevR_eq l zb B dA dB hs' (fun k=>(hA k).trans ⟨?_,?_⟩) (fun k=>(hB k).trans ⟨?_,?_⟩)
   ·rintro⟨o,Q,D,Y⟩;rcases List.mem_cons.1 Q with rfl|Q
    ·exact⟨y,hy,e1.trans D,e2.trans Y⟩
    ·exact⟨o,Q,D,Y⟩
   ·rintro⟨o,Q,h⟩;exact⟨o,by simp[Q],h⟩
   ·rintro⟨o,Q,D,Y⟩;rcases List.mem_cons.1 Q with rfl|Q
    ·exact⟨y,hy,e1.trans D,e2.trans Y⟩
    ·exact⟨o,Q,D,Y⟩
   ·rintro⟨o,Q,h⟩;exact⟨o,by simp[Q],h⟩
  ·rw[if_neg he];have vN:∀y∈l,y.side=x.side->y.ticks≠x.ticks:=fun y hy D Y=>he ⟨y,hy,D,Y⟩;rcases hs x (by simp) with hx|hx
   ·have hxA:x.ticks∈zb:=(hA _).2 ⟨x,by simp,hx,rfl⟩;have:=nlevR_eq l (zb.erase x.ticks) B (dA.erase _) dB hs' (fun k=>?_) (fun k=>(hB k).trans ⟨?_,?_⟩)
    ·rw[List.length_erase_of_mem hxA] at this;have hp:0<zb.length:=List.length_pos_of_mem hxA;omega
    ·rw[List.Nodup.mem_erase_iff dA,hA];constructor
     ·rintro⟨hk,o,Q,D,Y⟩;rcases List.mem_cons.1 Q with rfl|Q
      ·exact absurd Y.symm hk
      ·exact⟨o,Q,D,Y⟩
     ·rintro⟨o,Q,D,Y⟩;exact⟨fun e=>vN o Q (D.trans hx.symm) (Y.trans e),o,by simp[Q],D,Y⟩
    ·rintro⟨o,Q,D,Y⟩;rcases List.mem_cons.1 Q with rfl|Q
     ·omega
     ·exact⟨o,Q,D,Y⟩
    ·rintro⟨o,Q,h⟩;exact⟨o,by simp[Q],h⟩
   ·have hxB:x.ticks∈B:=(hB _).2 ⟨x,by simp,hx,rfl⟩;have:=nlevR_eq l zb (B.erase x.ticks) dA (dB.erase _) hs' (fun k=>(hA k).trans ⟨?_,?_⟩) (fun k=>?_)
    ·rw[List.length_erase_of_mem hxB] at this;have hp:0<B.length:=List.length_pos_of_mem hxB;omega
    ·rintro⟨o,Q,D,Y⟩;rcases List.mem_cons.1 Q with rfl|Q
     ·omega
     ·exact⟨o,Q,D,Y⟩
    ·rintro⟨o,Q,h⟩;exact⟨o,by simp[Q],h⟩
    ·rw[List.Nodup.mem_erase_iff dB,hB];constructor
     ·rintro⟨hk,o,Q,D,Y⟩;rcases List.mem_cons.1 Q with rfl|Q
      ·exact absurd Y.symm hk
      ·exact⟨o,Q,D,Y⟩
     ·rintro⟨o,Q,D,Y⟩;exact⟨fun e=>vN o Q (D.trans hx.symm) (Y.trans e),o,by simp[Q],D,Y⟩
def nlev (l:List Od):Nat:=nlevR l.reverse
theorem nlev_snoc (l:List Od)(x:Od):nlev (l ++ [x])=nlev l+if ∃y∈l,y.side=x.side/\y.ticks=x.ticks then 0 else 1:=by
 unfold nlev;rw[List.reverse_append];simp[nlevR]
theorem nlev_eq {l:List Od}{zb B:List Int}(hs:∀o∈l,o.side=1\/o.side=2)(hA:IsT true (zv l 1) zb)(hB:IsT false (zv l 2) B):nlev l=zb.length+B.length:=by
 refine nlevR_eq _ zb B (bt_nodup hA.sorted) (bt_nodup hB.sorted) (fun o Q=>hs o (by simpa using Q)) (fun k=>(hA.mem k).trans ?_) (fun k=>(hB.mem k).trans ?_)
 ·simp[zv,and_assoc]
 ·simp[zv,and_assoc]
def iq (s:Bool)(l:List Od)(sd:Int)(i:Nat)(o:Od):Prop:=l[i]? = some o/\o.side=sd/\∀j o',l[j]? = some o'->o'.side=sd->j≠i->ahd s o o'
theorem front_unique {s:Bool}{l:List Od}{sd:Int}{i j:Nat}{o o':Od}(h:iq s l sd i o)(h':iq s l sd j o'):i=j/\o=o':=by
 obtain⟨a1,a2,a3⟩:=h;obtain⟨b1,b2,b3⟩:=h'
 have aB:i=j:=by
  rcases Nat.decEq i j with xr|rfl
  ·exact absurd (a3 j o' b1 b2 (fun e=>xr e.symm)) (ahd_asymm (b3 i o a1 a2 xr))
  ·rfl
 subst aB;rw[a1] at b1;exact⟨rfl,Option.some.inj b1⟩
theorem queue_front {s:Bool}{l:List Od}{sd:Int}{T:List Int}(hr:eo l)(hT:IsT s (zv l sd) T){o:Od}(Q:(T.flatMap (atK (zv l sd))).head? = some o) :
  ∃i,iq s l sd i o:=by
 have hrs:eo (zv l sd):=List.Pairwise.sublist List.filter_sublist hr;have hp:=flat_perm T (zv l sd) (bt_nodup hT.sorted) (fun o Q=>(hT.mem _).2 ⟨o,Q,rfl⟩);have bV:=flat_sorted hT.sorted hrs;generalize T.flatMap (atK (zv l sd))=ho at *;cases ho with
 | nil=>simp at Q
 | cons a r =>
  simp at Q;subst Q;have hm:a∈zv l sd:=hp.mem_iff.1 (by simp);simp[zv] at hm;obtain⟨i,hi⟩:=List.mem_iff_getElem?.1 hm.1;refine⟨i,hi,hm.2,fun j o' hj hs xr=>?_⟩;have hm':o'∈a::r:=hp.mem_iff.2 (by simp[zv];exact⟨yP hj,hs⟩);rcases List.mem_cons.1 hm' with rfl|hm'
  ·exfalso;obtain⟨D,e1⟩:=yH.1 hi;obtain⟨Y,e2⟩:=yH.1 hj;have hp2:=List.pairwise_iff_getElem.1 hr;rcases Nat.lt_or_gt_of_ne xr with h|h
   ·have:=hp2 j i Y D h;rw[e1,e2] at this;omega
   ·have:=hp2 i j D Y h;rw[e1,e2] at this;omega
  ·exact(List.pairwise_cons.1 bV).1 o' hm'
theorem queue_none {s:Bool}{l:List Od}{sd:Int}{T:List Int}(hT:IsT s (zv l sd) T)(Q:(T.flatMap (atK (zv l sd))).head? = none):∀o∈l,o.side≠sd:=by
 have hp:=flat_perm T (zv l sd) (bt_nodup hT.sorted) (fun o Q=>(hT.mem _).2 ⟨o,Q,rfl⟩);rw[List.head?_eq_none_iff] at Q;rw[Q] at hp;have:=List.nil_perm.1 hp;intro o D Y;have hm:o∈zv l sd:=by simp[zv];exact⟨D,Y⟩
 rw[this] at hm;simp at hm
def Od.vs (o:Od):List Value:=(yw o.id o.side o.ticks o.left o.life o.tag)
theorem Od.len (o:Od):o.vs.length=6:=rfl
def Od.val (o:Od):Value:=.agg (yw o.id o.side o.ticks o.left o.life o.tag).toArray
def Nd.vs (n:Nd):List Value:=[H n.side,H n.ticks,H n.qty,H n.count,H n.be,H n.wo,H n.el,H n.yo]
def Qo.vs (q:Qo):List Value:=[H q.od.id,H q.od.side,H q.od.ticks,H q.od.left,H q.od.life,yk q.od.tag,H q.yg]
structure TM (T:TypeId) (w:World) (b:Nat) (S:TS):Prop where
  root:w.cell? ⟨b,0,none⟩=some (.int .i64 S.root)
  lc:w.cell? ⟨b,1,none⟩=some (.int .i64 S.lc)
  nd:∀i,i<21->w.rangeAt b (2+i*8) (S.nd i).vs
  oc:w.cell? ⟨b,170,none⟩=some (.int .i64 S.oc)
  qo:∀i,i<21->w.rangeAt b (171+i*7) (S.qo i).vs
  fr:∀o,w.frozen? ⟨b,o,none⟩=false
  obj:∃cur,w.heap[b]? = some (.cells cur T (0,0))
theorem obj_set {w:World}{b o:Nat}{v:Value}{T:TypeId}(h:∃xA,w.heap[b]? = some (.cells xA T (0,0))):∃xA,(w.setCell (J b o) v).heap[b]? = some (.cells xA T (0,0)):=by
  obtain⟨xA,h⟩:=h;exact⟨xA.setIfInBounds o v,by simp[World.setCell,Array.getElem?_modify,h]⟩
theorem tm_lt {w:World}{b:Nat}{S:TS}{T:TypeId}(h:TM T w b S):b<w.heap.size:=yL w _ h.root
theorem eT {w w':World}{b:Nat}{S:TS}{T:TypeId}(h:TM T w b S)(E:w'.heap[b]? = w.heap[b]?):TM T w' b S:=
  ⟨(yR (a:=(J b 0)) E).trans h.root,(yR (a:=(J b 1)) E).trans h.lc,
   fun i hi j v hv=>(yR (a:=(J b (2+i*8+j))) E).trans (h.nd i hi j v hv),(yR (a:=(J b 170)) E).trans h.oc,
   fun i hi j v hv=>(yR (a:=(J b (171+i*7+j))) E).trans (h.qo i hi j v hv),fun o=>(World.frozen?_of_block (a:=(J b o)) E).trans (h.fr o),by rw[E];exact h.obj⟩
theorem gR {w w':World}{b C:Nat}{S:TS}{T:TypeId}(h:TM T w b S)(E:Below C w w')(hC:b<C):TM T w' b S:=eT h (E.block b hC)
theorem iO {w w':World}{b:Nat}{G:Option Nat}{S:TS}{T:TypeId}(h:TM T w b S)(X:w.grownBy w' G)(xr:some b≠G):TM T w' b S:=eT h (X.block b (tm_lt h) xr)
theorem gw {w:World}{b o n:Nat}{v:Value}{F:List Value}(h:w.rangeAt b o F)(hn:n<o\/o+F.length<=n):(w.setCell (J b n) v).rangeAt b o F:=fun j u hu=>by
  have hj:=(yH.1 hu).1;rw[yM _ _ _ _ (ei (by omega))];exact h j u hu
theorem iR {w:World}{b o j0:Nat}{v:Value}{F:List Value}(h:w.rangeAt b o F)(cR:j0<F.length):(w.setCell (J b (o+j0)) v).rangeAt b o (F.set j0 v):=fun j u hu=>by
  by_cases hj:j=j0
  · subst hj;rw[List.getElem?_set_self cR] at hu;obtain rfl:=Option.some.inj hu;exact yN _ _ _ (h j _ (yI cR))
  · rw[yX (fun e=>hj e.symm)] at hu;rw[yM _ _ _ _ (ei (by omega))];exact h j u hu
theorem fR {w:World}{b o n:Nat}{v u:Value}(h:w.cell? (J b o)=some u)(hn:o≠n):(w.setCell (J b n) v).cell? (J b o)=some u:=by
  rw[yM _ _ _ _ (ei (by omega))];exact h
theorem Nd.len (n:Nd):n.vs.length=8:=rfl
theorem Qo.len (n:Qo):n.vs.length=7:=rfl
theorem tm_root {w:World}{b:Nat}{S:TS}{T:TypeId}(h:TM T w b S)(n:Nat):TM T (w.setCell (J b 0) (H n)) b { S with root:=n }:=
  ⟨yN _ _ _ h.root,fR h.lc (by omega),fun i hi=>gw (h.nd i hi) (by omega),fR h.oc (by omega),fun i hi=>gw (h.qo i hi) (by omega),fun o=>by rw[World.frozen?_setCell];exact h.fr o,obj_set h.obj⟩
theorem tm_lc {w:World}{b:Nat}{S:TS}{T:TypeId}(h:TM T w b S)(n:Nat):TM T (w.setCell (J b 1) (H n)) b { S with lc:=n }:=
  ⟨fR h.root (by omega),yN _ _ _ h.lc,fun i hi=>gw (h.nd i hi) (by omega),fR h.oc (by omega),fun i hi=>gw (h.qo i hi) (by omega),fun o=>by rw[World.frozen?_setCell];exact h.fr o,obj_set h.obj⟩
theorem tm_oc {w:World}{b:Nat}{S:TS}{T:TypeId}(h:TM T w b S)(n:Nat):TM T (w.setCell (J b 170) (H n)) b { S with oc:=n }:=
  ⟨fR h.root (by omega),fR h.lc (by omega),fun i hi=>gw (h.nd i hi) (by rw[Nd.len];omega),yN _ _ _ h.oc,fun i hi=>gw (h.qo i hi) (by omega),fun o=>by rw[World.frozen?_setCell];exact h.fr o,obj_set h.obj⟩
theorem eu {w:World}{b:Nat}{S:TS}{T:TypeId}(h:TM T w b S)(i0 j0:Nat)(vk:i0<21)(cR:j0<8)(v:Value)(n':Nd)(hn:n'.vs=(S.nd i0).vs.set j0 v)(o:Nat)(Q:o=2+i0*8+j0) :
    TM T (w.setCell (J b o) v) b { S with nd:=upd S.nd i0 n' }:=by
  subst Q;refine⟨fR h.root (by omega),fR h.lc (by omega),fun i hi=>?_,fR h.oc (by omega),fun i hi=>gw (h.qo i hi) (by omega),fun o=>by rw[World.frozen?_setCell];exact h.fr o,obj_set h.obj⟩
  by_cases hii:i=i0
  · subst hii;show World.rangeAt _ _ _ (upd S.nd i n' i).vs;rw[zo,hn];exact iR (h.nd i hi) cR
  · show World.rangeAt _ _ _ (upd S.nd i0 n' i).vs;rw[zk _ _ hii];exact gw (h.nd i hi) (by rw[Nd.len];omega)
theorem tm_qo {w:World}{b:Nat}{S:TS}{T:TypeId}(h:TM T w b S)(i0 j0:Nat)(vk:i0<21)(cR:j0<7)(v:Value)(n':Qo)(hn:n'.vs=(S.qo i0).vs.set j0 v)(o:Nat)(Q:o=171+i0*7+j0) :
    TM T (w.setCell (J b o) v) b { S with qo:=upd S.qo i0 n' }:=by
  subst Q;refine⟨fR h.root (by omega),fR h.lc (by omega),fun i hi=>gw (h.nd i hi) (by rw[Nd.len];omega),fR h.oc (by omega),fun i hi=>?_,fun o=>by rw[World.frozen?_setCell];exact h.fr o,obj_set h.obj⟩
  by_cases hii:i=i0
  · subst hii;show World.rangeAt _ _ _ (upd S.qo i n' i).vs;rw[zo,hn];exact iR (h.qo i hi) cR
  · show World.rangeAt _ _ _ (upd S.qo i0 n' i).vs;rw[zk _ _ hii];exact gw (h.qo i hi) (by rw[Qo.len];omega)
theorem zS {w:World}{b o:Nat}{n:Nd}(h:w.rangeAt b o n.vs) :
    w.cell? (J b o)=some (H n.side)/\w.cell? (J b (o+1))=some (H n.ticks)/\w.cell? (J b (o+2))=some (H n.qty)/\w.cell? (J b (o+3))=some (H n.count) /\
    w.cell? (J b (o+4))=some (H n.be)/\w.cell? (J b (o+5))=some (H n.wo)/\w.cell? (J b (o+6))=some (H n.el)/\w.cell? (J b (o+7))=some (H n.yo):=
  ⟨h 0 _ rfl,h 1 _ rfl,h 2 _ rfl,h 3 _ rfl,h 4 _ rfl,h 5 _ rfl,h 6 _ rfl,h 7 _ rfl⟩
theorem iN {w:World}{b o:Nat}{n:Qo}(h:w.rangeAt b o n.vs) :
    w.cell? (J b o)=some (H n.od.id)/\w.cell? (J b (o+1))=some (H n.od.side)/\w.cell? (J b (o+2))=some (H n.od.ticks)/\w.cell? (J b (o+3))=some (H n.od.left) /\
    w.cell? (J b (o+4))=some (H n.od.life)/\w.cell? (J b (o+5))=some (yk n.od.tag)/\w.cell? (J b (o+6))=some (H n.yg):=
  ⟨h 0 _ rfl,h 1 _ rfl,h 2 _ rfl,h 3 _ rfl,h 4 _ rfl,h 5 _ rfl,h 6 _ rfl⟩
theorem zF {w:World}{b o:Nat}{n:Od}(h:w.rangeAt b o n.vs) :
    w.cell? (J b o)=some (H n.id)/\w.cell? (J b (o+1))=some (H n.side)/\w.cell? (J b (o+2))=some (H n.ticks)/\w.cell? (J b (o+3))=some (H n.left) /\
    w.cell? (J b (o+4))=some (H n.life)/\w.cell? (J b (o+5))=some (yk n.tag):=
  ⟨h 0 _ rfl,h 1 _ rfl,h 2 _ rfl,h 3 _ rfl,h 4 _ rfl,h 5 _ rfl⟩
def Cur.off:Cur->Nat
  | .root=>0
  | .be h=>2+h*8+4
  | .wo h=>2+h*8+5
def Cur.ok:Cur->Prop
  | .root=>True
  | .be h=>h<21
  | .wo h=>h<21
theorem cur_cell {w:World}{b:Nat}{S:TS}{T:TypeId}(h:TM T w b S)(c:Cur)(hc:c.ok):w.cell? (J b c.off)=some (H (S.rd c)):=by
  cases c with
  | root=>exact h.root
  | be a=>exact(zS (h.nd a hc)).2.2.2.2.1
  | wo a=>exact(zS (h.nd a hc)).2.2.2.2.2.1
theorem tm_cur {w:World}{b:Nat}{S:TS}{T:TypeId}(h:TM T w b S)(c:Cur)(hc:c.ok)(n:Nat):TM T (w.setCell (J b c.off) (H n)) b (S.wr n c):=by
  cases c with
  | root=>exact tm_root h n
  | be a=>exact eu h a 4 hc (by omega) (H n) { S.nd a with be:=n } rfl _ rfl
  | wo a=>exact eu h a 5 hc (by omega) (H n) { S.nd a with wo:=n } rfl _ rfl
theorem gF {α:Type}(f:Nat->α)(i:Nat)(x y:α):upd (upd f i x) i y=upd f i y:=by
  funext j;simp only[upd];split <;> rfl
theorem zm (w:World)(F:List Value)(t:TypeId):(w.alloc (Obj.cells F.toArray t)).rangeAt w.heap.size 0 F:=fun j u h=>by
  rw[cell_of_row _ w.heap.size (0+j) F.toArray t (0,0) (heap_alloc_new w _)];simpa using h
theorem zf (w:World)(o:Obj):(w.alloc o).heap.size=w.heap.size+1:=by simp
theorem gr_drew {a w:World}{G:Option Nat}(h:a.grownBy w G):a.grownBy w.drew G:=⟨h.os,h.tape,h.output,h.size,h.block⟩
theorem eG {P:Program}{ops:Array Oper}{C:World->Prop}{ho:Act->Prop}{a:Act}{o:Oper}{rest:List Oper}{v:Value}(D:Region.wanted o (yielded ops a.tmps)=true)(Y:∀w',C w'->o.quietAt P a C w' v)
    (h3:∀mR:Act->Prop,(∀a,wpQuiet P ops C ho rest a->mR a)->mR (a.put o.dst v)):wpQuiet P ops C ho (o::rest) a:=
  wpQuiet_step fun mR hK=>by rw[if_pos D];exact⟨v,Y,h3 mR hK⟩
theorem ix {P:Program}{id:Nat}{ho:Exit->Act->World->Prop}{a:Act}{w W:World}{l:List Oper}(hm:P.follows .mixedOrders=true)(hB:Region.lexB .any l.toArray=true)(X:W.grownBy w none)
    (h:wpQuiet P l.toArray (fun w'=>W.grownBy w' none) (fun a'=>∀w',W.grownBy w' none->ho .normal a' w') l a):(Code.region id l.toArray true).wp P ho a w:=
  wp_region_quiet (C:=fun w'=>W.grownBy w' none) hm hB ⟨X.os,X.tape,X.output,X.size,X.block⟩ (by simpa using h)
theorem zT {a w:World}{b:Nat}(h:a.grownBy w (some b))(o:Nat)(v:Value):a.grownBy (w.setCell (J b o) v) (some b):=
  ⟨h.os,h.tape,h.output,by rw[World.setCell];simpa using h.size,fun k hk xr=>(yT w _ _ k (fun e=>xr (by rw[e]))).trans (h.block k hk xr)⟩
theorem grow_eq (S:TS)(cu:Cur)(o:Od)(m:Nat)(hm:m=S.lc+1) :
    ({ root:=({ S with lc:=m }.wr m cu).root,lc:=({ S with lc:=m }.wr m cu).lc,oc:=({ S with lc:=m }.wr m cu).oc,
       nd:=upd ({ S with lc:=m }.wr m cu).nd m { (({ S with lc:=m }.wr m cu).nd m) with side:=o.side,ticks:=o.ticks,qty:=0,count:=0 },qo:=({ S with lc:=m }.wr m cu).qo }:TS)=S.grow cu o.side o.ticks:=by
  subst hm;cases cu <;> rfl
def LFI (s:Bool)(b:Nat)(S:TS)(t:Tr)(kk:Int)(W:World)(k:Nat)(p:Value)(wr:World):Prop:=
  ∃c u,p=I b ((dP c).off)/\u.hs.length<=k/\Way s S t kk c u/\W.grownBy wr none
def LFEnd (s:Bool)(T:TypeId)(b:Nat)(S:TS)(t:Tr)(o:Od)(w:World)(h:Nat)(w':World):Prop:=
  ∃(S':TS),TM T w' b S'/\w.grownBy w' (some b) /\
    ((h∈t.hs/\(S.nd h).ticks=o.ticks/\S'=S)\/(∃c u,Way s S t o.ticks c u/\S.rd (dP c)=0/\h=S.lc+1/\S'=S.grow (dP c) o.side o.ticks))
theorem cur_ok {s:Bool}{S:TS}{t:Tr}{k:Int}{c:Ctx}{u:Tr}(hi:TI s S t)(h:Way s S t k c u)(qw:S.lc<20):(dP c).ok:=by
  have hm:∀a∈O c++cr c,a<21:=fun a ha=>by
    have:=hi.range a (by rw[h.plug,gV];simp at ha |-;rcases ha with h|h <;> simp[h]);omega
  match c,hm with
  | [],_=>trivial
  | (true,a,r)::c,hm=>exact hm a (by simp[cr])
  | (false,a,l)::c,hm=>exact hm a (by simp[O])
theorem tm_put {w:World}{b:Nat}{S:TS}{T:TypeId}(h:TM T w b S)(i:Nat)(hi:i<21)(o:Od) :
    TM T (((((((w.setCell (J b (171+i*7)) (H o.id)).setCell (J b (171+i*7+1)) (H o.side)).setCell (J b (171+i*7+2)) (H o.ticks)).setCell (J b (171+i*7+3)) (H o.left)).setCell
      (J b (171+i*7+4)) (H o.life)).setCell (J b (171+i*7+5)) (yk o.tag)).setCell (J b (171+i*7+6)) (H 0)) b { S with qo:=upd S.qo i ⟨o,0⟩ }:=by
  have h0:=tm_qo h i 0 hi (by omega) (H o.id) { (TS.qo _ i) with od:={ (TS.qo _ i).od with id:=o.id } } rfl _ rfl;have D:=tm_qo h0 i 1 hi (by omega) (H o.side) { (TS.qo _ i) with od:={ (TS.qo _ i).od with side:=o.side } } rfl _ rfl;have Y:=tm_qo D i 2 hi (by omega) (H o.ticks) { (TS.qo _ i) with od:={ (TS.qo _ i).od with ticks:=o.ticks } } rfl _ rfl;have h3:=tm_qo Y i 3 hi (by omega) (H o.left) { (TS.qo _ i) with od:={ (TS.qo _ i).od with left:=o.left } } rfl _ rfl;have h4:=tm_qo h3 i 4 hi (by omega) (H o.life) { (TS.qo _ i) with od:={ (TS.qo _ i).od with life:=o.life } } rfl _ rfl;have h5:=tm_qo h4 i 5 hi (by omega) (yk o.tag) { (TS.qo _ i) with od:={ (TS.qo _ i).od with tag:=o.tag } } rfl _ rfl;have h6:=tm_qo h5 i 6 hi (by omega) (H 0) { (TS.qo _ i) with yg:=0 } rfl _ rfl;simp only[gF,zo] at h6;exact h6
theorem gr_put {w:World}{b:Nat}(o:Od)(i:Nat) :
    w.grownBy (((((((w.setCell (J b (171+i*7)) (H o.id)).setCell (J b (171+i*7+1)) (H o.side)).setCell (J b (171+i*7+2)) (H o.ticks)).setCell (J b (171+i*7+3)) (H o.left)).setCell
      (J b (171+i*7+4)) (H o.life)).setCell (J b (171+i*7+5)) (yk o.tag)).setCell (J b (171+i*7+6)) (H 0)) (some b):=
  zT (zT (zT (zT (zT (zT (zT (yS _ _) _ _) _ _) _ _) _ _) _ _) _ _) _ _
theorem lf_lt {s:Bool}{T:TypeId}{b:Nat}{S:TS}{t:Tr}{o:Od}{w w':World}{h:Nat}(he:LFEnd s T b S t o w h w')(hi:TI s S t)(qw:S.lc<20):(h:Int)<21:=by
  obtain⟨S',_,_,⟨D,_,_⟩|⟨c,u,_,_,D,_⟩⟩:=he
  · have:=(hi.range h D).2;omega
  · omega
theorem link_eq0 (S:TS)(h m:Nat)(lf:Int)(hy:(S.nd h).yo=0) :
    ({ S with nd:=upd S.nd h { (S.nd h) with qty:=(S.nd h).qty+lf,count:=(S.nd h).count+1,el:=m,yo:=m } }:TS)=S.link h m lf:=by
  simp[TS.link,hy]
theorem link_eq1 (S:TS)(h m:Nat)(lf:Int)(hy:¬ (S.nd h).yo=0) :
    ({ S with nd:=upd S.nd h { (S.nd h) with qty:=(S.nd h).qty+lf,count:=(S.nd h).count+1,yo:=m },qo:=upd S.qo (S.nd h).yo { S.qo (S.nd h).yo with yg:=m } }:TS)=S.link h m lf:=by
  simp[TS.link,hy]
theorem gx {a w w':World}{G:Option Nat}(h:a.grownBy w G)(D:w'.os=w.os)(Y:w'.tape=w.tape)(h3:w'.output=w.output)(h4:w'.heap=w.heap):a.grownBy w' G:=
  ⟨D.trans h.os,Y.trans h.tape,h3.trans h.output,by rw[h4];exact h.size,fun k hk xr=>by rw[h4];exact h.block k hk xr⟩
def eh (T:TypeId)(s:Bool)(w:World)(b:Nat)(sd:Int)(seq:List Od):Prop:=∃S t,TM T w b S/\TI s S t/\QI S t sd seq/\S.lc<=seq.length
theorem tm_zero (w:World)(yc:Array Value)(T:TypeId)(h0:yc[0]? = some (H 0))(D:yc[1]? = some (H 0))(Y:∀i,i<21->(yc.toList.drop (2+i*8)).take 8=zNd.vs)(h3:yc[170]? = some (H 0))(h4:∀i,i<21->(yc.toList.drop (171+i*7)).take 7=zQo.vs) :
    TM T (w.alloc (Obj.cells yc T)) w.heap.size zTS:=by
  have hh:=heap_alloc_new w (Obj.cells yc T);have xt:∀o,(w.alloc (Obj.cells yc T)).cell? (yq w o)=yc[o]?:=fun o=>cell_of_row _ w.heap.size o yc T (0,0) hh
  have uF:∀(o n:Nat) (F:List Value),(yc.toList.drop o).take n=F->(w.alloc (Obj.cells yc T)).rangeAt w.heap.size o F:=fun o n F hcs j v hv=>by
    rw[xt,<- hv,<- hcs,List.getElem?_take,List.getElem?_drop,Array.getElem?_toList];rw[<- hcs,List.getElem?_take] at hv;split
    · rfl
    · next hj=>rw[if_neg hj] at hv;cases hv
  exact⟨(xt 0).trans h0,(xt 1).trans D,fun i hi=>uF _ 8 _ (Y i hi),(xt 170).trans h3,fun i hi=>uF _ 7 _ (h4 i hi),fun o=>by simp only[World.frozen?,hh];simp,yc,hh⟩
theorem zx {T:TypeId}{s:Bool}{w w':World}{b:Nat}{sd:Int}{seq:List Od}(h:eh T s w b sd seq)(E:w'.heap[b]? = w.heap[b]?):eh T s w' b sd seq:=by
  obtain⟨S,t,D,Y⟩:=h;exact⟨S,t,eT D E,Y⟩
theorem zL {T:TypeId}{s:Bool}{w:World}{b:Nat}{sd:Int}{seq:List Od}(h:eh T s w b sd seq):b<w.heap.size:=by
  obtain⟨S,t,D,_⟩:=h;exact tm_lt D
theorem sumL_bound:∀l:List Od,(∀o∈l,0<=o.left/\o.left<=1000000)->0<=sumQ l/\sumQ l<=1000000*l.length
  | [],_=>by simp[sumQ]
  | a::l,h=>by
    have D:=h a (by simp);have Y:=sumL_bound l (fun o Q=>h o (by simp[Q]));simp only[sumQ,List.length_cons];omega
theorem count_set:∀(x:List Bool) (i:Nat),x[i]? = some false->(x.set i true).count false+1=x.count false
 | [],i,h=>by simp at h
 | b::r,0,h=>by simp at h;subst h;simp
 | b::r,i+1,h=>by
  have ih:=count_set r i (by simpa using h);simp only[List.set_cons_succ,List.count_cons];omega
theorem no_false {x:List Bool}(h:x.count false=0)(i:Nat):x[i]? ≠ some false:=fun e=>by
 have:=List.count_pos_iff.2 (yP e);omega
section
variable {P:Program} {ho:Exit->Act->World->Prop} {l:List Oper} (xi:List Bool->Act->World->Prop)
theorem ready_facts {x:List Bool}(hx:x.length=l.length){i:Nat}(h:i∈Region.ready .any l.toArray x.toArray) :
  ∃o,l[i]? = some o/\x[i]? = some false/\∀e∈o.after,Region.binds .any e=true->x[e.on]? = some true:=by
 obtain⟨D,o,Y,h3⟩:=mem_ready.1 h;refine⟨o,by simpa using Y,?_,fun e he E=>?_⟩
 ·by_cases hi:i<x.length
  ·simp[hi] at D;simp[hi,D]
  ·simp[hi] at D
 ·have:=h3 e he E
  by_cases hi:e.on<x.length
  ·simp[hi] at this;simp[hi,this]
  ·simp[hi] at this
theorem gp {x:List Bool}(h:Region.ready .any l.toArray x.toArray = [])(hx:x.length=l.length)(i:Nat)(o:Oper)(Q:l[i]? = some o)(R:∀e∈o.after,Region.binds .any e=true->x[e.on]? = some true):x[i]? = some true:=by
 have hi:i<x.length:=by rw[hx];exact(yH.1 Q).1
 cases E:x[i]
 ·exfalso
  have:i∈Region.ready .any l.toArray x.toArray:=mem_ready.2 ⟨by simp[hi,E],o,by simpa using Q,fun e he aX=>by
   have:=R e he aX;obtain⟨D,Y⟩:=yH.1 this;simp[D,Y]⟩
  rw[h] at this;simp at this
 ·simp[hi,E]
theorem wpAny_inv
  (vB:∀x a w,xi x a w->x.length=l.length->Region.ready .any l.toArray x.toArray = []->ho .normal a w)
  (pG:∀x a w i o,xi x a w->x.length=l.length->l[i]? = some o->x[i]? = some false->(∀e∈o.after,Region.binds .any e=true->x[e.on]? = some true) ->
   (if Region.wanted o (yielded l.toArray a.tmps) then o.wp P a w (fun a' w'=>xi (x.set i true) a' w') ho else xi (x.set i true) (a.put o.dst M) w)) :
  ∀(n:Nat) (x:List Bool) (a:Act) (w:World),x.count false=n->x.length=l.length->xi x a w->wpAny P .any l.toArray ho n x.toArray a w
 | 0,x,a,w,hn,hx,L=>by
  have hr:Region.ready .any l.toArray x.toArray = []:=by
   apply List.eq_nil_iff_forall_not_mem.2;intro i hi;obtain⟨o,_,Y,_⟩:=ready_facts hx hi;exact no_false hn i Y
  exact⟨hr,vB x a w L hx hr⟩
 | n+1,x,a,w,hn,hx,L=>by
  refine⟨fun hr=>vB x a w L hx hr,fun i hi=>?_⟩;obtain⟨o,D,Y,h3⟩:=ready_facts hx hi;have hs:=pG x a w i o L hx D Y h3;have hc:=count_set x i Y
  have hnext:∀a' w',xi (x.set i true) a' w'->wpAny P .any l.toArray ho n (x.toArray.setIfInBounds i true) a' w':=fun a' w' h=>by
   have:=wpAny_inv vB pG n (x.set i true) a' w' (by omega) (by simpa using hx) h;simpa using this
  have Q:l.toArray[i]? = some o:=by simpa using D
  unfold wpOp;rw[Q];simp only;split
  ·next hw=>rw[if_pos hw] at hs;exact .inl (Oper.wp_mono hnext hs)
  ·next hw=>rw[if_neg hw] at hs;exact hnext _ _ hs
theorem iA {id:Nat}{a:Act}{w:World}(hm:P.follows .mixedOrders=true)
  (h0:xi (List.replicate l.length false) a { w with drawn:=w.drawn+1 })
  (vB:∀x a w,xi x a w->x.length=l.length->Region.ready .any l.toArray x.toArray = []->ho .normal a w)
  (pG:∀x a w i o,xi x a w->x.length=l.length->l[i]? = some o->x[i]? = some false->(∀e∈o.after,Region.binds .any e=true->x[e.on]? = some true) ->
   (if Region.wanted o (yielded l.toArray a.tmps) then o.wp P a w (fun a' w'=>xi (x.set i true) a' w') ho else xi (x.set i true) (a.put o.dst M) w)) :
  (Code.region id l.toArray true).wp P ho a w:=by
 refine wp_region_any hm ?_;have:=wpAny_inv xi vB pG l.length (List.replicate l.length false) a { w with drawn:=w.drawn+1 } (by simp) (by simp) h0;simpa using this
end
def RGrow (base:World)(cs:(Nat->Value)->Act)(C:Nat->Value->Prop)(x:List Bool)(zb:Act)(W:World):Prop:=
 ∃f,zb=cs f/\yn base W/\∀j,x[j]? = some true->C j (f j)
theorem zC {C:Nat->Value->Prop}{x:List Bool}{f:Nat->Value}{i:Nat}{v:Value}(h:∀j,x[j]? = some true->C j (f j))(hv:C i v):∀j,(x.set i true)[j]? = some true->C j (upd f i v j):=fun j hj=>by
 by_cases hji:j=i
 ·subst hji;rw[zo];exact hv
 ·rw[zk _ _ hji];rw[yX (fun e=>hji e.symm)] at hj;exact h j hj
theorem eE {l:List Oper}{x:List Bool}(h:Region.ready .any l.toArray x.toArray = [])(hx:x.length=l.length)(hacy:∀(i:Nat) (o:Oper),l[i]? = some o->∀e∈o.after,e.on<i):∀i,i<l.length->x[i]? = some true:=by
 intro i
 induction i using Nat.strongRecOn with
 | _ i ih =>
  intro hi;refine gp h hx i l[i] (yI hi) fun e he _=>?_;have:=hacy i l[i] (yI hi) e he;exact ih e.on this (by omega)
theorem fbits (x:Nat)(w:World):(callFunc 147 #[yj x]).run Tryz.prog w = .ok (.value (.int .u64 x)) w:=by
 rw[run_callFunc_extern (e:=Extern.MathFloatBits.float64bits) Tryz.func147 (by kernel_rfl) (by kernel_rfl) (by kernel_rfl) (by kernel_rfl)];rfl
theorem ln (x:Nat)(w:World) :
  Calls Tryz.prog 146 #[yj x] w fun e w'=>e=ym (.bool (nanB x))/\w'=w:=by
 go_enter Tryz.func146,Tryz.ntmps146;go_wp2;go_ret;exact⟨rfl,rfl⟩
def fbit (x:Nat):Nat:=if nanB x=true then 9221120237041090560 else x
theorem lN (x:Nat)(w:World) :
  Calls Tryz.prog 93 #[yj x] w fun e w'=>e=ym (.int .u64 (fbit x))/\w'=w:=by
 have E:=fbits;cases h:nanB x
 case true =>
  have HX:Hid (fbit x=9221120237041090560):=if_pos h;go_enter Tryz.func93,Tryz.ntmps93;go_wp2_with (go_at_call 146;refine(ln _ _).mono ?_;rintro e w' ⟨rfl,rfl⟩);go_ret;exact⟨by rw[U HX];rfl,rfl⟩
 case false =>
  have HX:Hid (fbit x=x):=if_neg (by rw[h];decide);go_enter Tryz.func93,Tryz.ntmps93;go_wp2_with (go_at_call 146;refine(ln _ _).mono ?_;rintro e w' ⟨rfl,rfl⟩);go_ret;exact⟨by rw[U HX];rfl,rfl⟩
def insT (s:Bool)(k:Int):List Int->List Int
 | []=>[k]
 | a::r=>if bt s k a then k::a::r else if k=a then a::r else a::insT s k r
theorem insT_mem (s:Bool)(k x:Int):∀T:List Int,x∈insT s k T ↔ x=k\/x∈T
 | []=>by simp[insT]
 | a::r=>by
  rw[insT];split
  ·simp
  ·split
   ·next h=>subst h;simp
   ·simp[insT_mem s k x r];constructor
    ·rintro(h|h|h) <;> simp[h]
    ·rintro(h|h|h) <;> simp[h]
theorem insT_sorted (s:Bool)(k:Int):∀T:List Int,T.Pairwise (bt s)->(insT s k T).Pairwise (bt s)
 | [],_=>by simp[insT]
 | a::r,h=>by
  obtain⟨p1,p2⟩:=List.pairwise_cons.1 h;rw[insT];split
  ·next hk=>exact List.pairwise_cons.2 ⟨fun x hx=>by
    rcases List.mem_cons.1 hx with rfl|hx
    ·exact hk
    ·exact bt_trans hk (p1 x hx),h⟩
  ·next hk =>
   split
   ·exact h
   ·next xr =>
    refine List.pairwise_cons.2 ⟨fun x hx=>?_,insT_sorted s k r p2⟩;rcases(insT_mem s k x r).1 hx with rfl|hx
    ·rcases bt_total s x a with D|D|D
     ·exact absurd D hk
     ·exact absurd D xr
     ·exact D
    ·exact p1 x hx
def tks (s:Bool):List Od->List Int
 | []=>[]
 | o::r=>insT s o.ticks (tks s r)
theorem fZ (s:Bool):∀seq:List Od,IsT s seq (tks s seq)
 | []=>⟨by simp[tks],by simp[tks]⟩
 | o::r=>by
  have ih:=fZ s r;refine⟨insT_sorted s _ _ ih.sorted,fun k=>?_⟩;rw[tks,insT_mem,ih.mem];constructor
  ·rintro(rfl|⟨o',D,Y⟩)
   ·exact⟨o,by simp,rfl⟩
   ·exact⟨o',by simp[D],Y⟩
  ·rintro⟨o',D,Y⟩;rcases List.mem_cons.1 D with rfl|D
   ·exact .inl Y.symm
   ·exact .inr ⟨o',D,Y⟩
theorem ml {s:Bool}:∀ {zb B:List Int},zb.Pairwise (bt s)->B.Pairwise (bt s)->(∀k,k∈zb ↔ k∈B)->zb=B
 | [],B,_,_,h=>by
  cases B with
  | nil=>rfl
  | cons b r=>exact absurd ((h b).2 (by simp)) (by simp)
 | a::zb,[],_,_,h=>absurd ((h a).1 (by simp)) (by simp)
 | a::zb,b::B,hA,hB,h=>by
  obtain⟨p1,p2⟩:=List.pairwise_cons.1 hA;obtain⟨q1,q2⟩:=List.pairwise_cons.1 hB
  have hab:a=b:=by
   rcases List.mem_cons.1 ((h a).1 (by simp)) with e|e
   ·exact e
   ·rcases List.mem_cons.1 ((h b).2 (by simp)) with e'|e'
    ·exact e'.symm
    ·exact absurd (p1 b e') (bt_asymm (q1 a e))
  subst hab;rw[ml p2 q2 fun k=>⟨fun hk=>?_,fun hk=>?_⟩]
  ·rcases List.mem_cons.1 ((h k).1 (by simp[hk])) with e|e
   ·subst e;exact absurd (p1 _ hk) (bt_irr _ _)
   ·exact e
  ·rcases List.mem_cons.1 ((h k).2 (by simp[hk])) with e|e
   ·subst e;exact absurd (q1 _ hk) (bt_irr _ _)
   ·exact e
theorem isT_unique {s:Bool}{seq:List Od}{zb:List Int}(hA:IsT s seq zb):zb=tks s seq:=
 ml hA.sorted (fZ s seq).sorted fun k=>(hA.mem k).trans ((fZ s seq).mem k).symm
structure Lv where
 side:Int
 ticks:Int
 qty:Int
 count:Int
def Lv.vs (n:Lv):List Value:=[H n.side,H n.ticks,H n.qty,H n.count]
theorem Lv.len (o:Lv):o.vs.length=4:=rfl
def lvAt (sd:Int)(seq:List Od)(k:Int):Lv:=⟨sd,k,sumQ (atK seq k),(atK seq k).length⟩
def ef (s:Bool)(sd:Int)(seq:List Od):List Lv:=(tks s seq).map (lvAt sd seq)
def quOf (s:Bool)(seq:List Od):List Od:=(tks s seq).flatMap (atK seq)
def Nd.lv (n:Nd):Lv:=⟨n.side,n.ticks,n.qty,n.count⟩
theorem lB {s:Bool}{S:TS}{t:Tr}{sd:Int}{seq:List Od}(hi:TI s S t)(hq:QI S t sd seq):(t.hs.map fun h=>(S.nd h).lv)=ef s sd seq:=by
 rw[ef,<- isT_unique (isT_of hi hq),List.map_map];refine List.map_congr_left fun h hh=>?_;have hQ:=hq.q h hh;show Lv.mk _ _ _ _ = Lv.mk _ _ _ _;rw[hQ.side,hQ.qty,hQ.cnt]
theorem tree_orders {s:Bool}{S:TS}{t:Tr}{sd:Int}{seq:List Od}(hi:TI s S t)(hq:QI S t sd seq):(t.hs.flatMap fun h=>(qs seq (S.nd h).ticks).map fun i=>(S.qo i).od)=quOf s seq:=by
 rw[quOf,<- isT_unique (isT_of hi hq),List.flatMap_map];rw[List.flatMap_def,List.flatMap_def];congr 1;refine List.map_congr_left fun h hh=>?_;exact qsF_map _ _ seq 1 (fun i o Q=>hq.od i o Q)
def zOdv:Value:=.agg (yw 0 0 0 0 0 ⟨#[]⟩).toArray
def frOf (q:List Od):Value:=match q.head? with
 | some o=>.tuple #[o.val,.bool true]
 | none=>.tuple #[zOdv,.bool false]
end Go.Proofs.YthhkapcbocgcoaaGreatDoor
