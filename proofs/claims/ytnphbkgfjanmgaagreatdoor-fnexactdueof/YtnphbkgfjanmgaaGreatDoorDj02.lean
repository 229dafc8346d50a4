/-
  A tree of levels in arrays with handles, as pure data: what stands in it, how an order's level is found or grown, and what is told of its levels and queues; no function walked.
-/
import Derived.Test.YtnphbkgfjanmgaaGreatDoorDj01
set_option linter.unusedVariables false
set_option maxHeartbeats 6400000
set_option maxRecDepth 100000
namespace Go.Proofs.YtnphbkgfjanmgaaGreatDoor
open Go.RowKit
structure Od where
  id:Int
  side:Int
  ticks:Int
  left:Int
  life:Int
  tag:ByteArray
structure Nd where
  side:Int
  ticks:Int
  qty:Int
  count:Int
  be:Nat
  wo:Nat
  el:Nat
  yo:Nat
structure Qo where
  od:Od
  yg:Nat
structure TS where
  root:Nat
  lc:Nat
  oc:Nat
  nd:Nat→Nd
  qo:Nat→Qo
inductive Tr where
  | nil:Tr
  | node (h:Nat) (l r:Tr):Tr
def zOd:Od:=⟨0,0,0,0,0,⟨#[]⟩⟩
def zNd:Nd:=⟨0,0,0,0,0,0,0,0⟩
def zQo:Qo:=⟨zOd,0⟩
def zTS:TS:=⟨0,0,0,fun _=>zNd,fun _=>zQo⟩
def bt:Bool→Int→Int→Prop
  | true,a,b=>b < a
  | false,a,b=>a < b
theorem bt_irr (s:Bool) (a:Int):¬ bt s a a:=by cases s <;> simp [bt]
theorem bt_trans {s:Bool} {a b c:Int} (N:bt s a b) (Y:bt s b c):bt s a c:=by cases s <;> simp only [bt] at * <;> omega
theorem bt_total (s:Bool) (a b:Int):bt s a b ∨ a = b ∨ bt s b a:=by cases s <;> simp only [bt] <;> omega
theorem bt_asymm {s:Bool} {a b:Int} (N:bt s a b):¬ bt s b a:=by cases s <;> simp only [bt] at * <;> omega
instance (s:Bool) (a b:Int):Decidable (bt s a b):=by cases s <;> (unfold bt; infer_instance)
def Tr.hs:Tr→List Nat
  | .nil=>[]
  | .node h l r=>l.hs ++ h :: r.hs
def Rep (nd:Nat→Nd):Tr→Nat→Prop
  | .nil,v=>v = 0
  | .node h l r,v=>v = h∧0 < h∧Rep nd l (nd h).be∧Rep nd r (nd h).wo
theorem dm {nd nd':Nat→Nd}:∀ {t:Tr} {v:Nat},(∀ h ∈ t.hs,(nd' h).be = (nd h).be∧(nd' h).wo = (nd h).wo)→Rep nd t v→Rep nd' t v
  | .nil,_,_,h=>h
  | .node h l r,v,hc,⟨N,Y,h3,h4⟩=>by
    have hh:=hc h (by simp [Tr.hs])
    refine ⟨N,Y,?_,?_⟩
    · rw [hh.1]; exact dm (fun a ha=>hc a (by simp [Tr.hs,ha])) h3
    · rw [hh.2]; exact dm (fun a ha=>hc a (by simp [Tr.hs,ha])) h4
theorem rep_nil {nd:Nat→Nd} {t:Tr} (h:Rep nd t 0):t = .nil:=by
  cases t with
  | nil=>rfl
  | node a l r=>obtain ⟨N,Y,_⟩:=h; omega
theorem rep_node {nd:Nat→Nd} {t:Tr} {v:Nat} (h:Rep nd t v) (hv:v ≠ 0):∃ l r,t = .node v l r∧Rep nd l (nd v).be∧Rep nd r (nd v).wo:=by
  cases t with
  | nil=>exact absurd h hv
  | node a l r=>obtain ⟨rfl,_,h3,h4⟩:=h; exact ⟨l,r,rfl,h3,h4⟩
inductive Cur where
  | root:Cur
  | be (h:Nat):Cur
  | wo (h:Nat):Cur
def TS.rd (S:TS):Cur→Nat
  | .root=>S.root
  | .be h=>(S.nd h).be
  | .wo h=>(S.nd h).wo
def upd {α:Type} (f:Nat→α) (i:Nat) (x:α):Nat→α:=fun j=>if j = i then x else f j
theorem zr {α:Type} (f:Nat→α) (i:Nat) (x:α):upd f i x i = x:=by simp [upd]
theorem zk {α:Type} (f:Nat→α) {i j:Nat} (x:α) (h:j ≠ i):upd f i x j = f j:=by simp [upd,h]
def TS.wr (S:TS) (n:Nat):Cur→TS
  | .root=>{ S with root:=n }
  | .be h=>{ S with nd:=upd S.nd h { S.nd h with be:=n } }
  | .wo h=>{ S with nd:=upd S.nd h { S.nd h with wo:=n } }
abbrev Ctx:=List (Bool × Nat × Tr)
def plug:Ctx→Tr→Tr
  | [],s=>s
  | (true,h,r) :: c,s=>plug c (.node h s r)
  | (false,h,l) :: c,s=>plug c (.node h l s)
def zW:Ctx→Cur
  | []=>.root
  | (true,h,_) :: _=>.be h
  | (false,h,_) :: _=>.wo h
def F:Ctx→List Nat
  | []=>[]
  | (true,_,_) :: c=>F c
  | (false,h,l) :: c=>F c ++ (l.hs ++ [h])
def cr:Ctx→List Nat
  | []=>[]
  | (true,h,r) :: c=>h :: r.hs ++ cr c
  | (false,_,_) :: c=>cr c
theorem cT:∀ (c:Ctx) (s:Tr),(plug c s).hs = F c ++ (s.hs ++ cr c)
  | [],s=>by simp [plug,F,cr]
  | (true,h,r) :: c,s=>by rw [plug,cT c]; simp [Tr.hs,F,cr]
  | (false,h,l) :: c,s=>by rw [plug,cT c]; simp [Tr.hs,F,cr]
def RepC (nd:Nat→Nd):Ctx→Nat→Nat→Prop
  | [],root,v=>v = root
  | (true,h,r) :: c,root,v=>v = (nd h).be∧0 < h∧Rep nd r (nd h).wo∧RepC nd c root h
  | (false,h,l) :: c,root,v=>v = (nd h).wo∧0 < h∧Rep nd l (nd h).be∧RepC nd c root h
theorem rep_plug {nd:Nat→Nd} {root:Nat}:∀ (c:Ctx) (s:Tr) (v:Nat),RepC nd c root v→Rep nd s v→Rep nd (plug c s) root
  | [],s,v,h,hs=>by rw [← h]; exact hs
  | (true,a,r) :: c,s,v,⟨N,Y,h3,h4⟩,hs=>rep_plug c (.node a s r) a h4 ⟨rfl,Y,N ▸ hs,h3⟩
  | (false,a,l) :: c,s,v,⟨N,Y,h3,h4⟩,hs=>rep_plug c (.node a l s) a h4 ⟨rfl,Y,h3,N ▸ hs⟩
theorem ed {nd nd':Nat→Nd}:∀ {c:Ctx} {root v:Nat},(∀ h ∈ F c ++ cr c,(nd' h).be = (nd h).be∧(nd' h).wo = (nd h).wo)→RepC nd c root v→RepC nd' c root v
  | [],_,_,_,h=>h
  | (true,a,r) :: c,root,v,hc,⟨N,Y,h3,h4⟩=>by
    have ha:=hc a (by simp [cr])
    refine ⟨by rw [ha.1]; exact N,Y,by rw [ha.2]; exact dm (fun b E=>hc b (by simp [cr,E])) h3,ed (fun b E=>hc b ?_) h4⟩
    simp [F,cr] at E ⊢; rcases E with E | E <;> simp [E]
  | (false,a,l) :: c,root,v,hc,⟨N,Y,h3,h4⟩=>by
    have ha:=hc a (by simp [F])
    refine ⟨by rw [ha.2]; exact N,Y,by rw [ha.1]; exact dm (fun b E=>hc b (by simp [F,E])) h3,ed (fun b E=>hc b ?_) h4⟩
    simp [F,cr] at E ⊢; rcases E with E | E <;> simp [E]
theorem rep_wr {S:TS} {c:Ctx} {v n:Nat} (h:RepC S.nd c S.root v) (hd:(F c ++ cr c).Nodup):RepC (S.wr n (zW c)).nd c (S.wr n (zW c)).root n:=by
  match c,h,hd with
  | [],h,_=>rfl
  | (true,a,r) :: c,⟨N,Y,h3,h4⟩,hd =>
    simp only [F,cr] at hd
    rw [List.nodup_append] at hd
    obtain ⟨d1,d2,d3⟩:=hd
    simp only [List.cons_append,List.nodup_cons,List.mem_append,not_or] at d2
    have xD:∀ b,b ∈ r.hs ∨ b ∈ F c ∨ b ∈ cr c→b ≠ a:=by
      rintro b (E | E | E) rfl
      · exact d2.1.1 E
      · exact d3 b E b (by simp) rfl
      · exact d2.1.2 E
    simp only [zW,TS.wr]
    refine ⟨by simp [upd],Y,?_,?_⟩
    · simp only [zr]
      exact dm (fun b E=>by rw [zk _ _ (xD b (.inl E))]; exact ⟨rfl,rfl⟩) h3
    · exact ed (fun b E=>by rw [zk _ _ (xD b (.inr (by simpa using E)))]; exact ⟨rfl,rfl⟩) h4
  | (false,a,l) :: c,⟨N,Y,h3,h4⟩,hd =>
    simp only [F,cr] at hd
    rw [List.nodup_append] at hd
    obtain ⟨d1,d2,d3⟩:=hd
    rw [List.nodup_append] at d1
    obtain ⟨d4,d5,d6⟩:=d1
    rw [List.nodup_append] at d5
    obtain ⟨d7,d8,d9⟩:=d5
    have xD:∀ b,b ∈ l.hs ∨ b ∈ F c ∨ b ∈ cr c→b ≠ a:=by
      rintro b (E | E | E) rfl
      · exact d9 b E b (by simp) rfl
      · exact d6 b E b (by simp) rfl
      · exact d3 b (by simp) b E rfl
    simp only [zW,TS.wr]
    refine ⟨by simp [upd],Y,?_,?_⟩
    · simp only [zr]
      exact dm (fun b E=>by rw [zk _ _ (xD b (.inl E))]; exact ⟨rfl,rfl⟩) h3
    · exact ed (fun b E=>by rw [zk _ _ (xD b (.inr (by simpa using E)))]; exact ⟨rfl,rfl⟩) h4
structure TI (s:Bool) (S:TS) (t:Tr):Prop where
  rep:Rep S.nd t S.root
  nodup:t.hs.Nodup
  range:∀ h ∈ t.hs,1 ≤ h∧h ≤ S.lc
  len:t.hs.length = S.lc
  sorted:t.hs.Pairwise (fun a b=>bt s (S.nd a).ticks (S.nd b).ticks)
  fresh:∀ h,S.lc < h→S.nd h = zNd
structure Way (s:Bool) (S:TS) (t:Tr) (k:Int) (c:Ctx) (u:Tr):Prop where
  plug:t = plug c u
  repC:RepC S.nd c S.root (S.rd (zW c))
  rep:Rep S.nd u (S.rd (zW c))
  left:∀ a ∈ F c,bt s (S.nd a).ticks k
  right:∀ a ∈ cr c,bt s k (S.nd a).ticks
theorem way_start {s:Bool} {S:TS} {t:Tr} (h:TI s S t) (k:Int):Way s S t k [] t :=
  ⟨rfl,rfl,h.rep,by simp [F],by simp [cr]⟩
theorem way_pair {s:Bool} {S:TS} {a:Nat} {l r:Tr} {c:Ctx} (h:(plug c (.node a l r)).hs.Pairwise (fun a b=>bt s (S.nd a).ticks (S.nd b).ticks)) :
    (∀ b ∈ l.hs,bt s (S.nd b).ticks (S.nd a).ticks)∧(∀ b ∈ r.hs,bt s (S.nd a).ticks (S.nd b).ticks):=by
  rw [cT,Tr.hs] at h
  have Y:=(List.pairwise_append.1 (List.pairwise_append.1 h).2.1).1
  obtain ⟨_,h3,h4⟩:=List.pairwise_append.1 Y
  exact ⟨fun b E=>h4 b E a (by simp),(List.pairwise_cons.1 h3).1⟩
theorem way_be {s:Bool} {S:TS} {t:Tr} {k:Int} {c:Ctx} {u:Tr} {a:Nat} (hi:TI s S t) (h:Way s S t k c u) (ha:S.rd (zW c) = a) (h0:a ≠ 0) (hk:bt s k (S.nd a).ticks) :
    ∃ l r,u = .node a l r∧Way s S t k ((true,a,r) :: c) l:=by
  obtain ⟨N,Y,h3,h4,h5⟩:=h
  rw [ha] at Y h3
  obtain ⟨l,r,rfl,h6,h7⟩:=rep_node h3 h0
  have hp:=way_pair (by rw [← N]; exact hi.sorted)
  refine ⟨l,r,rfl,N,⟨rfl,by omega,h7,Y⟩,h6,h4,fun b E=>?_⟩
  simp only [cr,List.cons_append,List.mem_cons,List.mem_append] at E
  rcases E with rfl | E | E
  · exact hk
  · exact bt_trans hk (hp.2 b E)
  · exact h5 b E
theorem way_wo {s:Bool} {S:TS} {t:Tr} {k:Int} {c:Ctx} {u:Tr} {a:Nat} (hi:TI s S t) (h:Way s S t k c u) (ha:S.rd (zW c) = a) (h0:a ≠ 0) (hk:bt s (S.nd a).ticks k) :
    ∃ l r,u = .node a l r∧Way s S t k ((false,a,l) :: c) r:=by
  obtain ⟨N,Y,h3,h4,h5⟩:=h
  rw [ha] at Y h3
  obtain ⟨l,r,rfl,h6,h7⟩:=rep_node h3 h0
  have hp:=way_pair (by rw [← N]; exact hi.sorted)
  refine ⟨l,r,rfl,N,⟨rfl,by omega,h6,Y⟩,h7,fun b E=>?_,h5⟩
  simp only [F,List.mem_append,List.mem_cons,List.not_mem_nil,or_false] at E
  rcases E with E | E | rfl
  · exact h4 b E
  · exact bt_trans (hp.1 b E) hk
  · exact hk
theorem way_at {s:Bool} {S:TS} {t:Tr} {k:Int} {c:Ctx} {u:Tr} {a:Nat} (h:Way s S t k c u) (ha:S.rd (zW c) = a) (h0:a ≠ 0):a ∈ t.hs:=by
  obtain ⟨N,Y,h3,_⟩:=h
  rw [ha] at h3
  obtain ⟨l,r,rfl,_⟩:=rep_node h3 h0
  rw [N,cT]; simp [Tr.hs]
def TS.grow (S:TS) (cu:Cur) (sd k:Int):TS :=
  let S1:=S.wr (S.lc + 1) cu
  { S1 with lc:=S.lc + 1,nd:=upd S1.nd (S.lc + 1) { S1.nd (S.lc + 1) with side:=sd,ticks:=k,qty:=0,count:=0 } }
theorem fg (S:TS) (n:Nat) (cu:Cur) (a:Nat):((S.wr n cu).nd a).ticks = (S.nd a).ticks:=by
  cases cu with
  | root=>rfl
  | be h=>simp only [TS.wr,upd]; split <;> simp_all
  | wo h=>simp only [TS.wr,upd]; split <;> simp_all
theorem wr_nd_out (S:TS) (n:Nat) (c:Ctx) (a:Nat) (ha:a ∉ F c ++ cr c):(S.wr n (zW c)).nd a = S.nd a:=by
  match c,ha with
  | [],_=>rfl
  | (true,b,r) :: c,ha=>simp only [zW,TS.wr]; exact zk _ _ (fun e=>ha (by simp [F,cr,e]))
  | (false,b,l) :: c,ha=>simp only [zW,TS.wr]; exact zk _ _ (fun e=>ha (by simp [F,cr,e]))
theorem wr_same (S:TS) (n:Nat) (cu:Cur):(S.wr n cu).lc = S.lc∧(S.wr n cu).oc = S.oc∧(S.wr n cu).qo = S.qo:=by
  cases cu <;> exact ⟨rfl,rfl,rfl⟩
theorem wr_nd_rest (S:TS) (n:Nat) (cu:Cur) (a:Nat):((S.wr n cu).nd a).side = (S.nd a).side∧((S.wr n cu).nd a).qty = (S.nd a).qty∧((S.wr n cu).nd a).count = (S.nd a).count∧((S.wr n cu).nd a).el = (S.nd a).el∧((S.wr n cu).nd a).yo = (S.nd a).yo:=by
  cases cu with
  | root=>exact ⟨rfl,rfl,rfl,rfl,rfl⟩
  | be h=>simp only [TS.wr,upd]; split <;> simp_all
  | wo h=>simp only [TS.wr,upd]; split <;> simp_all
theorem ti_grow {s:Bool} {S:TS} {t:Tr} {k sd:Int} {c:Ctx} {u:Tr} (hi:TI s S t) (h:Way s S t k c u) (h0:S.rd (zW c) = 0) :
    TI s (S.grow (zW c) sd k) (plug c (.node (S.lc + 1) .nil .nil))∧t.hs = F c ++ cr c∧(∀ a ∈ t.hs,(S.nd a).ticks ≠ k):=by
  obtain ⟨N,Y,h3,h4,h5⟩:=h
  rw [h0] at h3
  obtain rfl:=rep_nil h3
  have ht:t.hs = F c ++ cr c:=by rw [N,cT]; simp [Tr.hs]
  have ou:S.lc + 1 ∉ F c ++ cr c:=by
    rw [← ht]; intro hm; have:=(hi.range _ hm).2; omega
  have hnd:=hi.nodup
  rw [ht] at hnd
  have hz:(S.grow (zW c) sd k).nd (S.lc + 1) = { zNd with side:=sd,ticks:=k }:=by
    show upd _ _ _ _ = _
    rw [zr,wr_nd_out S _ c _ ou,hi.fresh _ (by omega)]
    rfl
  have hrc:=rep_wr (n:=S.lc + 1) Y hnd
  have hag:∀ b ∈ F c ++ cr c,(S.grow (zW c) sd k).nd b = (S.wr (S.lc + 1) (zW c)).nd b:=fun b E=>zk _ _ (fun e=>ou (e ▸ E))
  have hhs:(plug c (.node (S.lc + 1) .nil .nil)).hs = F c ++ (S.lc + 1) :: cr c:=by rw [cT]; simp [Tr.hs]
  have kR:∀ b ∈ F c ++ cr c,((S.grow (zW c) sd k).nd b).ticks = (S.nd b).ticks:=fun b E=>by rw [hag b E,fg]
  have pz:=hi.sorted
  rw [ht] at pz
  refine ⟨⟨?_,?_,?_,?_,?_,?_⟩,ht,?_⟩
  · refine rep_plug c _ (S.lc + 1) (ed (fun b E=>by rw [hag b E]; exact ⟨rfl,rfl⟩) hrc) ⟨rfl,by omega,?_,?_⟩ <;> rw [hz] <;> rfl
  · rw [hhs]
    rw [List.nodup_append] at hnd ⊢
    obtain ⟨d1,d2,d3⟩:=hnd
    refine ⟨d1,List.nodup_cons.2 ⟨fun hm=>ou (by simp [hm]),d2⟩,?_⟩
    intro a ha b E
    rcases List.mem_cons.1 E with rfl | E
    · rintro rfl; exact ou (by simp [ha])
    · exact d3 a ha b E
  · rw [hhs]
    intro a ha
    have qb:(S.grow (zW c) sd k).lc = S.lc + 1:=rfl
    rw [qb]
    simp only [List.mem_append,List.mem_cons] at ha
    rcases ha with ha | rfl | ha
    · have:=hi.range a (by rw [ht]; simp [ha]); omega
    · omega
    · have:=hi.range a (by rw [ht]; simp [ha]); omega
  · rw [hhs]
    have:=hi.len
    rw [ht] at this
    show _ = S.lc + 1
    simp at this ⊢; omega
  · rw [hhs,List.pairwise_append]
    rw [List.pairwise_append] at pz
    obtain ⟨d1,d2,d3⟩:=pz
    refine ⟨d1.imp_of_mem fun {a b} ha E hab=>?_,List.pairwise_cons.2 ⟨fun b E=>?_,d2.imp_of_mem fun {a b} ha E hab=>?_⟩,fun a ha b E=>?_⟩
    · rw [kR a (by simp [ha]),kR b (by simp [E])]; exact hab
    · rw [hz,kR b (by simp [E])]; exact h5 b E
    · rw [kR a (by simp [ha]),kR b (by simp [E])]; exact hab
    · rw [kR a (by simp [ha])]
      rcases List.mem_cons.1 E with rfl | E
      · rw [hz]; exact h4 a ha
      · rw [kR b (by simp [E])]; exact d3 a ha b E
  · intro h hh
    have hh':S.lc + 1 < h:=hh
    show upd _ _ _ _ = _
    rw [zk _ _ (by omega),wr_nd_out S _ c _ (by rw [← ht]; intro hm; have:=(hi.range _ hm).2; omega),hi.fresh _ (by omega)]
  · intro a ha
    rw [ht,List.mem_append] at ha
    rcases ha with ha | ha
    · intro e; have:=h4 a ha; rw [e] at this; exact bt_irr _ _ this
    · intro e; have:=h5 a ha; rw [e] at this; exact bt_irr _ _ this
def qsF (k:Int):Nat→List Od→List Nat
  | _,[]=>[]
  | n,o :: r=>if o.ticks = k then n :: qsF k (n + 1) r else qsF k (n + 1) r
theorem qsF_snoc (k:Int) (o:Od):∀ (l:List Od) (n:Nat),qsF k n (l ++ [o]) = qsF k n l ++ (if o.ticks = k then [n + l.length] else [])
  | [],n=>by simp [qsF]
  | a :: l,n=>by
    rw [List.cons_append,qsF,qsF_snoc k o l,qsF]
    have:n + 1 + l.length = n + (a :: l).length:=by simp; omega
    rw [this]; split <;> simp
theorem bW (k:Int):∀ (l:List Od) (n a:Nat),a ∈ qsF k n l→n ≤ a∧a < n + l.length∧∃ o,l[a - n]? = some o∧o.ticks = k
  | [],n,a,h=>by simp [qsF] at h
  | b :: l,n,a,h=>by
    rw [qsF] at h
    split at h
    · next E =>
      rcases List.mem_cons.1 h with rfl | h
      · exact ⟨Nat.le_refl _,by simp,b,by simp,E⟩
      · obtain ⟨N,Y,o,h3,h4⟩:=bW k l (n + 1) a h
        refine ⟨by omega,by simp; omega,o,?_,h4⟩
        rw [show a - n = (a - (n + 1)) + 1 by omega]; simpa using h3
    · obtain ⟨N,Y,o,h3,h4⟩:=bW k l (n + 1) a h
      refine ⟨by omega,by simp; omega,o,?_,h4⟩
      rw [show a - n = (a - (n + 1)) + 1 by omega]; simpa using h3
theorem qsF_nodup (k:Int):∀ (l:List Od) (n:Nat),(qsF k n l).Nodup
  | [],n=>by simp [qsF]
  | b :: l,n=>by
    rw [qsF]; split
    · exact List.nodup_cons.2 ⟨fun h=>by have:=(bW k l (n + 1) n h).1; omega,qsF_nodup k l _⟩
    · exact qsF_nodup k l _
theorem qsF_nil (k:Int):∀ (l:List Od) (n:Nat),(∀ o ∈ l,o.ticks ≠ k)→qsF k n l = []
  | [],_,_=>rfl
  | b :: l,n,h=>by rw [qsF,if_neg (h b (by simp)),qsF_nil k l _ (fun o Z=>h o (by simp [Z]))]
theorem qsF_map (k:Int) (f:Nat→Od):∀ (l:List Od) (n:Nat),(∀ i o,l[i]? = some o→f (n + i) = o)→(qsF k n l).map f = l.filter (fun o=>decide (o.ticks = k))
  | [],_,_=>rfl
  | b :: l,n,h=>by
    have ih:=qsF_map k f l (n + 1) (fun i o Z=>by rw [show n + 1 + i = n + (i + 1) by omega]; exact h (i + 1) o (by simpa using Z))
    have h0:f n = b:=h 0 b (by simp)
    rw [qsF,List.filter_cons]
    by_cases E:b.ticks = k
    · simp [E,ih,h0]
    · simp [E,ih]
def qs (seq:List Od) (k:Int):List Nat:=qsF k 1 seq
def atK (seq:List Od) (k:Int):List Od:=seq.filter (fun o=>decide (o.ticks = k))
def sumL:List Od→Int
  | []=>0
  | o :: r=>o.left + sumL r
theorem sumL_snoc (o:Od):∀ l:List Od,sumL (l ++ [o]) = sumL l + o.left
  | []=>by simp [sumL]
  | a :: l=>by rw [List.cons_append,sumL,sumL_snoc o l,sumL]; omega
def Chain (yg:Nat→Nat):Nat→List Nat→Prop
  | v,[]=>v = 0
  | v,a :: r=>v = a∧0 < a∧Chain yg (yg a) r
theorem dX {y y':Nat→Nat}:∀ {l:List Nat} {v:Nat},(∀ a ∈ l,y' a = y a)→Chain y v l→Chain y' v l
  | [],_,_,h=>h
  | a :: r,v,hc,⟨N,Y,h3⟩=>⟨N,Y,by rw [hc a (by simp)]; exact dX (fun b E=>hc b (by simp [E])) h3⟩
theorem chain_snoc {y:Nat→Nat} {n z:Nat} (hn:0 < n) (hy:y n = 0):∀ {l:List Nat} {v:Nat},Chain y v l→l.Nodup→l.getLast? = some z→n ∉ l→Chain (upd y z n) v (l ++ [n])
  | [],_,_,_,hz,_=>by simp at hz
  | [a],v,⟨N,Y,h3⟩,_,hz,xD=>by
    simp at hz; subst hz
    have hna:n ≠ a:=fun e=>xD (by simp [e])
    exact ⟨N,Y,by rw [zr],hn,by rw [zk _ _ hna,hy]; rfl⟩
  | a :: b :: r,v,⟨N,Y,h3⟩,hd,hz,xD=>by
    have hd':=List.nodup_cons.1 hd
    have hz':(b :: r).getLast? = some z:=by rw [List.getLast?_cons_cons] at hz; exact hz
    have hza:a ≠ z:=fun e=>hd'.1 (e ▸ List.mem_of_getLast? hz')
    refine ⟨N,Y,?_⟩
    rw [zk _ _ hza]
    exact chain_snoc hn hy h3 hd'.2 hz' (fun h=>xD (by simp [h]))
structure QH (S:TS) (sd:Int) (seq:List Od) (h:Nat):Prop where
  side:(S.nd h).side = sd
  ne:qs seq (S.nd h).ticks ≠ []
  chain:Chain (fun i=>(S.qo i).yg) (S.nd h).el (qs seq (S.nd h).ticks)
  last:(qs seq (S.nd h).ticks).getLast? = some (S.nd h).yo
  qty:(S.nd h).qty = sumL (atK seq (S.nd h).ticks)
  cnt:(S.nd h).count = (atK seq (S.nd h).ticks).length
structure QI (S:TS) (t:Tr) (sd:Int) (seq:List Od):Prop where
  oc:S.oc = seq.length
  od:∀ i o,seq[i]? = some o→(S.qo (1 + i)).od = o
  fresh:∀ i,S.oc < i→S.qo i = zQo
  q:∀ h ∈ t.hs,QH S sd seq h
  cover:∀ o ∈ seq,∃ h ∈ t.hs,(S.nd h).ticks = o.ticks
theorem ti_zero (s:Bool):TI s zTS .nil:=⟨rfl,by simp [Tr.hs],by simp [Tr.hs],rfl,by simp [Tr.hs],fun _ _=>rfl⟩
theorem qi_zero (sd:Int):QI zTS .nil sd []:=⟨rfl,by simp,fun _ _=>rfl,by simp [Tr.hs],by simp⟩
def TS.lay (S:TS) (o:Od):TS:={ S with oc:=S.oc + 1,qo:=upd S.qo (S.oc + 1) ⟨o,0⟩ }
def TS.link (S:TS) (h n:Nat) (lf:Int):TS :=
  { S with nd:=upd S.nd h { S.nd h with el:=if (S.nd h).yo = 0 then n else (S.nd h).el,yo:=n,qty:=(S.nd h).qty + lf,count:=(S.nd h).count + 1 },
           qo:=if (S.nd h).yo = 0 then S.qo else upd S.qo (S.nd h).yo { S.qo (S.nd h).yo with yg:=n } }
theorem ti_lay {s:Bool} {S:TS} {t:Tr} (o:Od) (h:TI s S t):TI s (S.lay o) t:=⟨h.rep,h.nodup,h.range,h.len,h.sorted,h.fresh⟩
theorem eI (S:TS) (h n:Nat) (lf:Int) (a:Nat):((S.link h n lf).nd a).ticks = (S.nd a).ticks:=by
  simp only [TS.link,upd]; split <;> simp_all
theorem link_tree (S:TS) (h n:Nat) (lf:Int) (a:Nat):((S.link h n lf).nd a).be = (S.nd a).be∧((S.link h n lf).nd a).wo = (S.nd a).wo:=by
  simp only [TS.link,upd]; split <;> simp_all
theorem ti_link {s:Bool} {S:TS} {t:Tr} {h:Nat} (n:Nat) (lf:Int) (hi:TI s S t) (hh:h ∈ t.hs):TI s (S.link h n lf) t:=by
  refine ⟨dm (fun a _=>link_tree S h n lf a) hi.rep,hi.nodup,hi.range,hi.len,hi.sorted.imp fun {a b} hab=>?_,fun a ha=>?_⟩
  · rw [eI,eI]; exact hab
  · have N:=(hi.range h hh).2
    have Y:S.lc < a:=ha
    show upd _ _ _ _ = _
    rw [zk _ _ (by omega)]
    exact hi.fresh a ha
theorem eU {y:Nat→Nat}:∀ {l:List Nat} {v z:Nat},Chain y v l→l.getLast? = some z→0 < z
  | [],_,_,_,h=>by simp at h
  | [a],_,_,⟨_,Y,_⟩,h=>by simp at h; omega
  | a :: b :: r,_,_,⟨_,_,h3⟩,h=>eU h3 (by rw [List.getLast?_cons_cons] at h; exact h)
theorem dF (seq:List Od) (o:Od) (k:Int):qs (seq ++ [o]) k = qs seq k ++ (if o.ticks = k then [1 + seq.length] else []):=qsF_snoc k o seq 1
theorem atK_snoc (seq:List Od) (o:Od) (k:Int):atK (seq ++ [o]) k = atK seq k ++ (if o.ticks = k then [o] else []):=by
  unfold atK; rw [List.filter_append]; congr 1
  by_cases h:o.ticks = k <;> simp [h]
theorem qi_link {s:Bool} {S:TS} {t:Tr} {sd:Int} {seq:List Od} {o:Od} {h:Nat} (hi:TI s S t) (hoc:S.oc = seq.length + 1)
    (hod:∀ i o',(seq ++ [o])[i]? = some o'→(S.qo (1 + i)).od = o') (kf:∀ i,S.oc < i→S.qo i = zQo) (hyn:(S.qo (1 + seq.length)).yg = 0)
    (hq:∀ a ∈ t.hs,a ≠ h→QH S sd seq a) (hcov:∀ o ∈ seq,∃ h ∈ t.hs,(S.nd h).ticks = o.ticks)
    (hh:h ∈ t.hs) (hk:(S.nd h).ticks = o.ticks)
    (hH:QH S sd seq h ∨ ((∀ o' ∈ seq,o'.ticks ≠ o.ticks)∧S.nd h = { zNd with side:=sd,ticks:=o.ticks,be:=(S.nd h).be,wo:=(S.nd h).wo })) :
    QI (S.link h (1 + seq.length) o.left) t sd (seq ++ [o]):=by
  have hqlt:∀ k a,a ∈ qs seq k→a < 1 + seq.length∧0 < a:=fun k a ha=>by
    obtain ⟨N,Y,_⟩:=bW k seq 1 a ha; omega
  have hyo:(S.nd h).yo = 0 ∨ (0 < (S.nd h).yo∧(S.nd h).yo ∈ qs seq o.ticks):=by
    rcases hH with hH | ⟨_,hz⟩
    · have:=hH.last; rw [hk] at this
      exact .inr ⟨eU hH.chain hH.last,List.mem_of_getLast? this⟩
    · rw [hz]; exact .inl rfl
  have hodk:∀ i,((S.link h (1 + seq.length) o.left).qo i).od = (S.qo i).od:=fun i=>by
    simp only [TS.link]; split
    · rfl
    · simp only [upd]; split <;> simp_all
  refine ⟨?_,fun i o' qa=>by rw [hodk]; exact hod i o' qa,fun i qa=>?_,fun a ha=>?_,fun o' vM=>?_⟩
  · show S.oc = _; simp [hoc]
  · have qa:S.oc < i:=qa
    simp only [TS.link]; split
    · exact kf i qa
    · rcases hyo with h0 | ⟨h0,N⟩
      · contradiction
      · rw [zk _ _ (by have:=hqlt _ _ N; omega)]; exact kf i qa
  · by_cases hah:a = h
    · subst hah
      have hnd:(S.link a (1 + seq.length) o.left).nd a = { S.nd a with el:=if (S.nd a).yo = 0 then (1 + seq.length) else (S.nd a).el,yo:=(1 + seq.length),qty:=(S.nd a).qty + o.left,count:=(S.nd a).count + 1 }:=zr _ _ _
      rcases hH with hH | ⟨vL,hz⟩
      · have qJ:=eU hH.chain hH.last
        have pZ:(S.nd a).yo ≠ 0:=by omega
        have hqq:(S.link a (1 + seq.length) o.left).qo = upd S.qo (S.nd a).yo { S.qo (S.nd a).yo with yg:=(1 + seq.length) }:=by simp [TS.link,pZ]
        constructor
        · rw [hnd]; exact hH.side
        · rw [hnd]; show qs (seq ++ [o]) (S.nd a).ticks ≠ []; rw [dF,if_pos hk.symm]; simp
        · rw [hnd]; show Chain _ (if (S.nd a).yo = 0 then (1 + seq.length) else (S.nd a).el) (qs (seq ++ [o]) (S.nd a).ticks)
          rw [if_neg pZ,dF,if_pos hk.symm]
          have hc:=chain_snoc (n:=1 + seq.length) (by omega) hyn hH.chain (qsF_nodup _ _ _) hH.last (fun h=>by have:=(hqlt _ _ h).1; omega)
          refine dX (fun b _=>?_) hc
          rw [hqq]; simp only [upd]; split <;> simp_all
        · rw [hnd]; show (qs (seq ++ [o]) (S.nd a).ticks).getLast? = some (1 + seq.length)
          rw [dF,if_pos hk.symm]; simp
        · rw [hnd]; show (S.nd a).qty + o.left = sumL (atK (seq ++ [o]) (S.nd a).ticks)
          rw [atK_snoc,if_pos hk.symm,sumL_snoc,hH.qty]
        · rw [hnd]; show (S.nd a).count + 1 = ((atK (seq ++ [o]) (S.nd a).ticks).length:Int)
          rw [atK_snoc,if_pos hk.symm,hH.cnt]; simp
      · have hyz:(S.nd a).yo = 0:=by rw [hz]; rfl
        have hqz:(S.nd a).qty = 0:=by rw [hz]; rfl
        have hcz:(S.nd a).count = 0:=by rw [hz]; rfl
        have kO:(S.nd a).side = sd:=by rw [hz]
        have hqn:qs seq (S.nd a).ticks = []:=by rw [hk]; exact qsF_nil _ _ _ vL
        have han:atK seq (S.nd a).ticks = []:=by rw [hk]; unfold atK; rw [List.filter_eq_nil_iff]; intro b E; simpa using vL b E
        have hqq:(S.link a (1 + seq.length) o.left).qo = S.qo:=by simp [TS.link,hyz]
        constructor
        · rw [hnd]; exact kO
        · rw [hnd]; show qs (seq ++ [o]) (S.nd a).ticks ≠ []; rw [dF,if_pos hk.symm]; simp
        · rw [hnd]; show Chain _ (if (S.nd a).yo = 0 then (1 + seq.length) else (S.nd a).el) (qs (seq ++ [o]) (S.nd a).ticks)
          rw [if_pos hyz,dF,if_pos hk.symm,hqn,hqq]
          exact ⟨rfl,by omega,hyn⟩
        · rw [hnd]; show (qs (seq ++ [o]) (S.nd a).ticks).getLast? = some (1 + seq.length)
          rw [dF,if_pos hk.symm]; simp
        · rw [hnd]; show (S.nd a).qty + o.left = sumL (atK (seq ++ [o]) (S.nd a).ticks)
          rw [atK_snoc,if_pos hk.symm,sumL_snoc,hqz,han]; rfl
        · rw [hnd]; show (S.nd a).count + 1 = ((atK (seq ++ [o]) (S.nd a).ticks).length:Int)
          rw [atK_snoc,if_pos hk.symm,hcz,han]; simp
    · have hqa:=hq a ha hah
      have hnd:(S.link h (1 + seq.length) o.left).nd a = S.nd a:=zk _ _ hah
      have xD:¬ o.ticks = (S.nd a).ticks:=by
        intro e
        have hp:=hi.sorted
        have:∀ {l:List Nat},l.Pairwise (fun a b=>bt s (S.nd a).ticks (S.nd b).ticks)→a ∈ l→h ∈ l→False:=by
          intro l
          induction l with
          | nil=>intro _ h; simp at h
          | cons x r ih =>
            intro hp N Y
            obtain ⟨p1,p2⟩:=List.pairwise_cons.1 hp
            rcases List.mem_cons.1 N with rfl | pp <;> rcases List.mem_cons.1 Y with Y | oE
            · exact hah Y.symm
            · have:=p1 h oE; rw [hk,e] at this; exact bt_irr _ _ this
            · subst Y; have:=p1 a pp; rw [hk,e] at this; exact bt_irr _ _ this
            · exact ih p2 pp oE
        exact this hp ha hh
      have hqs:qs (seq ++ [o]) (S.nd a).ticks = qs seq (S.nd a).ticks:=by rw [dF,if_neg xD,List.append_nil]
      have hak:atK (seq ++ [o]) (S.nd a).ticks = atK seq (S.nd a).ticks:=by rw [atK_snoc,if_neg xD,List.append_nil]
      constructor
      · rw [hnd]; exact hqa.side
      · rw [hnd,hqs]; exact hqa.ne
      · rw [hnd,hqs]
        refine dX (fun b E=>?_) hqa.chain
        rcases hyo with h0 | ⟨h0,N⟩
        · simp [TS.link,h0]
        · have hbne:b ≠ (S.nd h).yo:=by
            rintro rfl
            obtain ⟨_,_,o1,e1,e2⟩:=bW _ _ _ _ E
            obtain ⟨_,_,o2,e3,e4⟩:=bW _ _ _ _ N
            rw [e1] at e3
            obtain rfl:=Option.some.inj e3
            exact xD (e4.symm.trans e2)
          simp only [TS.link]; split
          · rfl
          · rw [zk _ _ hbne]
      · rw [hnd,hqs]; exact hqa.last
      · rw [hnd,hak]; exact hqa.qty
      · rw [hnd,hak]; exact hqa.cnt
  · rcases List.mem_append.1 vM with vM | vM
    · obtain ⟨b,N,Y⟩:=hcov o' vM
      exact ⟨b,N,by rw [eI]; exact Y⟩
    · simp at vM; subst vM
      exact ⟨h,hh,by rw [eI]; exact hk⟩
theorem add_found {s:Bool} {S:TS} {t:Tr} {sd:Int} {seq:List Od} {o:Od} {h:Nat} (hi:TI s S t) (hq:QI S t sd seq) (hh:h ∈ t.hs) (hk:(S.nd h).ticks = o.ticks) :
    TI s ((S.lay o).link h (1 + seq.length) o.left) t∧QI ((S.lay o).link h (1 + seq.length) o.left) t sd (seq ++ [o]):=by
  have hqk:∀ i,i ≠ 1 + seq.length→(S.lay o).qo i = S.qo i:=fun i qa=>zk _ _ (by rw [hq.oc]; omega)
  have hqn:(S.lay o).qo (1 + seq.length) = ⟨o,0⟩:=by simp [TS.lay,upd,hq.oc]; omega
  have hqh:∀ a ∈ t.hs,QH (S.lay o) sd seq a:=fun a ha=>by
    have:=hq.q a ha
    exact ⟨this.side,this.ne,dX (fun b E=>by rw [hqk b (by have:=(bW _ _ _ _ E).2.1; omega)]) this.chain,this.last,this.qty,this.cnt⟩
  refine ⟨ti_link _ _ (ti_lay o hi) hh,qi_link (ti_lay o hi) (by show S.oc + 1 = _; rw [hq.oc]) (fun i o' qa=>?_) (fun i qa=>?_) (by rw [hqn]) (fun a ha _=>hqh a ha) hq.cover hh hk (.inl (hqh h hh))⟩
  · by_cases xJ:i < seq.length
    · rw [List.getElem?_append_left xJ] at qa
      rw [hqk _ (by omega)]; exact hq.od i o' qa
    · have hlt2:i < (seq ++ [o]).length:=(yH.1 qa).1
      have:i = seq.length:=by simp at hlt2; omega
      subst this
      simp at qa; subst qa
      rw [hqn]
  · have qa:S.oc + 1 < i:=qa
    rw [hqk _ (by rw [← hq.oc]; omega)]; exact hq.fresh i (by omega)
theorem add_new {s:Bool} {S:TS} {t:Tr} {seq:List Od} {o:Od} {c:Ctx} {u:Tr} (hi:TI s S t) (hq:QI S t o.side seq) (hw:Way s (S.lay o) t o.ticks c u) (h0:(S.lay o).rd (zW c) = 0) :
    TI s (((S.lay o).grow (zW c) o.side o.ticks).link (S.lc + 1) (1 + seq.length) o.left) (plug c (.node (S.lc + 1) .nil .nil)) ∧
    QI (((S.lay o).grow (zW c) o.side o.ticks).link (S.lc + 1) (1 + seq.length) o.left) (plug c (.node (S.lc + 1) .nil .nil)) o.side (seq ++ [o])∧(∀ o' ∈ seq,o'.ticks ≠ o.ticks):=by
  obtain ⟨hg,ht,vL⟩:=ti_grow (sd:=o.side) (ti_lay o hi) hw h0
  have hg:TI s ((S.lay o).grow (zW c) o.side o.ticks) (plug c (.node (S.lc + 1) .nil .nil)):=hg
  have hhs:(plug c (.node (S.lc + 1) .nil .nil)).hs = F c ++ (S.lc + 1) :: cr c:=by rw [cT]; simp [Tr.hs]
  have ou:S.lc + 1 ∉ F c ++ cr c:=by
    rw [← ht]; intro hm; have:=(hi.range _ hm).2; omega
  have hqo:((S.lay o).grow (zW c) o.side o.ticks).qo = (S.lay o).qo:=(wr_same (S.lay o) _ _).2.2
  have hqk:∀ i,i ≠ 1 + seq.length→(S.lay o).qo i = S.qo i:=fun i qa=>zk _ _ (by rw [hq.oc]; omega)
  have hqn:(S.lay o).qo (1 + seq.length) = ⟨o,0⟩:=by simp [TS.lay,upd,hq.oc]; omega
  have hag:∀ b ∈ t.hs,((S.lay o).grow (zW c) o.side o.ticks).nd b = ((S.lay o).wr (S.lc + 1) (zW c)).nd b:=fun b E=>zk _ _ (fun e=>ou (by rw [← ht]; exact e ▸ E))
  have vS:∀ b,b ∈ (plug c (.node (S.lc + 1) .nil .nil)).hs→b ≠ S.lc + 1→b ∈ t.hs:=fun b E xD=>by
    rw [hhs] at E; rw [ht]
    simp only [List.mem_append,List.mem_cons] at E ⊢
    rcases E with h | h | h
    · exact .inl h
    · exact absurd h xD
    · exact .inr h
  have hnos:∀ o' ∈ seq,o'.ticks ≠ o.ticks:=fun o' vM e=>by
    obtain ⟨b,N,Y⟩:=hq.cover o' vM
    exact vL b N (Y.trans e)
  have hin:S.lc + 1 ∈ (plug c (.node (S.lc + 1) .nil .nil)).hs:=by rw [hhs]; simp
  have hnd:((S.lay o).grow (zW c) o.side o.ticks).nd (S.lc + 1) = { zNd with side:=o.side,ticks:=o.ticks }:=by
    show upd _ _ _ _ = _
    have N:((S.lay o).wr (S.lc + 1) (zW c)).nd (S.lc + 1) = zNd:=by
      rw [wr_nd_out (S.lay o) _ c _ ou]; exact hi.fresh _ (by omega)
    have Y:(S.lay o).lc + 1 = S.lc + 1:=rfl
    rw [Y,zr,N]
    rfl
  refine ⟨ti_link _ _ hg hin,qi_link hg ?_ (fun i o' qa=>?_) (fun i qa=>?_) (by rw [hqo,hqn]) (fun a ha xD=>?_) (fun o' vM=>?_) hin (by rw [hnd]) (.inr ⟨hnos,by rw [hnd]⟩),hnos⟩
  · show ((S.lay o).wr _ _).oc = _
    rw [(wr_same (S.lay o) _ _).2.1]; show S.oc + 1 = _; rw [hq.oc]
  · rw [hqo]
    by_cases xJ:i < seq.length
    · rw [List.getElem?_append_left xJ] at qa
      rw [hqk _ (by omega)]; exact hq.od i o' qa
    · have hlt2:i < (seq ++ [o]).length:=(yH.1 qa).1
      have:i = seq.length:=by simp at hlt2; omega
      subst this
      simp at qa; subst qa
      rw [hqn]
  · have qa:((S.lay o).wr (S.lc + 1) (zW c)).oc < i:=qa
    rw [(wr_same (S.lay o) _ _).2.1] at qa
    have qa:S.oc + 1 < i:=qa
    rw [hqo,hqk _ (by rw [← hq.oc]; omega)]; exact hq.fresh i (by omega)
  · have E:=vS a ha xD
    have hQ:=hq.q a E
    obtain ⟨r1,r2,r3,r4,r5⟩:=wr_nd_rest (S.lay o) (S.lc + 1) (zW c) a
    have r6:=fg (S.lay o) (S.lc + 1) (zW c) a
    constructor
    · rw [hag a E,r1]; exact hQ.side
    · rw [hag a E,r6]; exact hQ.ne
    · rw [hag a E,r6,r4,hqo]
      exact dX (fun b E=>by rw [hqk b (by have:=(bW _ _ _ _ E).2.1; omega)]) hQ.chain
    · rw [hag a E,r6,r5]; exact hQ.last
    · rw [hag a E,r6,r2]; exact hQ.qty
    · rw [hag a E,r6,r3]; exact hQ.cnt
  · obtain ⟨b,N,Y⟩:=hq.cover o' vM
    refine ⟨b,?_,?_⟩
    · rw [hhs]; rw [ht] at N; simp only [List.mem_append,List.mem_cons] at N ⊢; rcases N with h | h <;> simp [h]
    · rw [hag b N,fg]; exact Y
theorem add_ready {s:Bool} {S S3:TS} {t:Tr} {seq:List Od} {o:Od} {h:Nat} (hi:TI s S t) (hq:QI S t o.side seq)
    (hc:(h ∈ t.hs∧((S.lay o).nd h).ticks = o.ticks∧S3 = S.lay o) ∨ (∃ c u,Way s (S.lay o) t o.ticks c u∧(S.lay o).rd (zW c) = 0∧h = (S.lay o).lc + 1∧S3 = (S.lay o).grow (zW c) o.side o.ticks)) :
    (S3.nd h).yo < 1 + seq.length∧(S3.nd h).qty = sumL (atK seq o.ticks)∧(S3.nd h).count = (atK seq o.ticks).length∧S3.lc ≤ S.lc + 1∧h ≤ S.lc + 1 ∧
      ∃ t',TI s (S3.link h (1 + seq.length) o.left) t'∧QI (S3.link h (1 + seq.length) o.left) t' o.side (seq ++ [o]):=by
  rcases hc with ⟨hh,hk,rfl⟩ | ⟨c,u,hw,h0,rfl,rfl⟩
  · have hQ:=hq.q h hh
    have oJ:(S.nd h).ticks = o.ticks:=hk
    have hm:=List.mem_of_getLast? hQ.last
    have hr:=hi.range h hh
    refine ⟨(bW _ _ _ _ hm).2.1,by rw [← oJ]; exact hQ.qty,by rw [← oJ]; exact hQ.cnt,Nat.le_succ _,by omega,t,?_⟩
    exact add_found hi hq hh hk
  · obtain ⟨N,Y,h3⟩:=add_new hi hq hw h0
    obtain ⟨hg,ht,vL⟩:=ti_grow (sd:=o.side) (ti_lay o hi) hw h0
    have ou:S.lc + 1 ∉ F c ++ cr c:=by
      rw [← ht]; intro hm; have:=(hi.range _ hm).2; omega
    have hnd:((S.lay o).grow (zW c) o.side o.ticks).nd (S.lc + 1) = { zNd with side:=o.side,ticks:=o.ticks }:=by
      show upd _ _ _ _ = _
      have N:((S.lay o).wr (S.lc + 1) (zW c)).nd (S.lc + 1) = zNd:=by
        rw [wr_nd_out (S.lay o) _ c _ ou]; exact hi.fresh _ (by omega)
      have Y:(S.lay o).lc + 1 = S.lc + 1:=rfl
      rw [Y,zr,N]
      rfl
    have qb:(S.lay o).lc + 1 = S.lc + 1:=rfl
    have hak:atK seq o.ticks = []:=by unfold atK; rw [List.filter_eq_nil_iff]; intro b E; simpa using h3 b E
    rw [qb,hnd,hak]
    exact ⟨by show 0 < _; omega,rfl,rfl,Nat.le_refl _,Nat.le_refl _,_,N,Y⟩
end Go.Proofs.YtnphbkgfjanmgaaGreatDoor
