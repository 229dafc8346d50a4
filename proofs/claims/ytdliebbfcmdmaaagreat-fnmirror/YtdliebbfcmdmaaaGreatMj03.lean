/-
  The queues of a tree of levels, as pure data: an order that is added stands last in its level's queue; no function walked.
-/
import Derived.Test.YtdliebbfcmdmaaaGreatMj02
set_option linter.unusedVariables false
set_option maxHeartbeats 6400000
set_option maxRecDepth 100000
namespace Go.Proofs.YtdliebbfcmdmaaaGreat
open Go.RowKit
def qsF (k:Int):Nat→List Od→List Nat
  | _,[]=>[]
  | n,o :: r=>if o.ticks = k then n :: qsF k (n + 1) r else qsF k (n + 1) r
theorem qsF_snoc (k:Int) (o:Od):∀ (l:List Od) (n:Nat),qsF k n (l ++ [o]) = qsF k n l ++ (if o.ticks = k then [n + l.length] else [])
  | [],n=>by simp [qsF]
  | a :: l,n=>by
    rw [List.cons_append,qsF,qsF_snoc k o l,qsF]
    have:n + 1 + l.length = n + (a :: l).length:=by simp; omega
    rw [this]; split <;> simp
theorem bD (k:Int):∀ (l:List Od) (n a:Nat),a ∈ qsF k n l→n ≤ a∧a < n + l.length∧∃ o,l[a - n]? = some o∧o.ticks = k
  | [],n,a,h=>by simp [qsF] at h
  | b :: l,n,a,h=>by
    rw [qsF] at h
    split at h
    · next L =>
      rcases List.mem_cons.1 h with rfl | h
      · exact ⟨Nat.le_refl _,by simp,b,by simp,L⟩
      · obtain ⟨Q,N,o,h3,h4⟩:=bD k l (n + 1) a h
        refine ⟨by omega,by simp; omega,o,?_,h4⟩
        rw [show a - n = (a - (n + 1)) + 1 by omega]; simpa using h3
    · obtain ⟨Q,N,o,h3,h4⟩:=bD k l (n + 1) a h
      refine ⟨by omega,by simp; omega,o,?_,h4⟩
      rw [show a - n = (a - (n + 1)) + 1 by omega]; simpa using h3
theorem qsF_nodup (k:Int):∀ (l:List Od) (n:Nat),(qsF k n l).Nodup
  | [],n=>by simp [qsF]
  | b :: l,n=>by
    rw [qsF]; split
    · exact List.nodup_cons.2 ⟨fun h=>by have:=(bD k l (n + 1) n h).1; omega,qsF_nodup k l _⟩
    · exact qsF_nodup k l _
theorem qsF_nil (k:Int):∀ (l:List Od) (n:Nat),(∀ o ∈ l,o.ticks ≠ k)→qsF k n l = []
  | [],_,_=>rfl
  | b :: l,n,h=>by rw [qsF,if_neg (h b (by simp)),qsF_nil k l _ (fun o Z=>h o (by simp [Z]))]
theorem qsF_map (k:Int) (f:Nat→Od):∀ (l:List Od) (n:Nat),(∀ i o,l[i]? = some o→f (n + i) = o)→(qsF k n l).map f = l.filter (fun o=>decide (o.ticks = k))
  | [],_,_=>rfl
  | b :: l,n,h=>by
    have ih:=qsF_map k f l (n + 1) (fun i o Z=>by rw [show n + 1 + i = n + (i + 1) by omega]; exact h (i + 1) o (by simpa using Z))
    have h0:f n = b:=h 0 b (by simp)
    rw [qsF,List.filter_cons]
    by_cases L:b.ticks = k
    · simp [L,ih,h0]
    · simp [L,ih]
def qs (seq:List Od) (k:Int):List Nat:=qsF k 1 seq
def atK (seq:List Od) (k:Int):List Od:=seq.filter (fun o=>decide (o.ticks = k))
def sumQ:List Od→Int
  | []=>0
  | o :: r=>o.left + sumQ r
theorem sumQ_snoc (o:Od):∀ l:List Od,sumQ (l ++ [o]) = sumQ l + o.left
  | []=>by simp [sumQ]
  | a :: l=>by rw [List.cons_append,sumQ,sumQ_snoc o l,sumQ]; omega
def Chain (yg:Nat→Nat):Nat→List Nat→Prop
  | v,[]=>v = 0
  | v,a :: r=>v = a∧0 < a∧Chain yg (yg a) r
theorem dm {y y':Nat→Nat}:∀ {l:List Nat} {v:Nat},(∀ a ∈ l,y' a = y a)→Chain y v l→Chain y' v l
  | [],_,_,h=>h
  | a :: r,v,hc,⟨Q,N,h3⟩=>⟨Q,N,by rw [hc a (by simp)]; exact dm (fun b L=>hc b (by simp [L])) h3⟩
theorem chain_snoc {y:Nat→Nat} {n z:Nat} (hn:0 < n) (hy:y n = 0):∀ {l:List Nat} {v:Nat},Chain y v l→l.Nodup→l.getLast? = some z→n ∉ l→Chain (upd y z n) v (l ++ [n])
  | [],_,_,_,hz,_=>by simp at hz
  | [a],v,⟨Q,N,h3⟩,_,hz,xB=>by
    simp at hz; subst hz
    have hna:n ≠ a:=fun e=>xB (by simp [e])
    exact ⟨Q,N,by rw [zn],hn,by rw [zo _ _ hna,hy]; rfl⟩
  | a :: b :: r,v,⟨Q,N,h3⟩,hd,hz,xB=>by
    have hd':=List.nodup_cons.1 hd
    have hz':(b :: r).getLast? = some z:=by rw [List.getLast?_cons_cons] at hz; exact hz
    have hza:a ≠ z:=fun e=>hd'.1 (e ▸ List.mem_of_getLast? hz')
    refine ⟨Q,N,?_⟩
    rw [zo _ _ hza]
    exact chain_snoc hn hy h3 hd'.2 hz' (fun h=>xB (by simp [h]))
structure QH (S:TS) (sd:Int) (seq:List Od) (h:Nat):Prop where
  side:(S.nd h).side = sd
  ne:qs seq (S.nd h).ticks ≠ []
  chain:Chain (fun i=>(S.qo i).yg) (S.nd h).el (qs seq (S.nd h).ticks)
  last:(qs seq (S.nd h).ticks).getLast? = some (S.nd h).yo
  qty:(S.nd h).qty = sumQ (atK seq (S.nd h).ticks)
  cnt:(S.nd h).count = (atK seq (S.nd h).ticks).length
structure QI (S:TS) (t:Tr) (sd:Int) (seq:List Od):Prop where
  oc:S.oc = seq.length
  od:∀ i o,seq[i]? = some o→(S.qo (1 + i)).od = o
  fresh:∀ i,S.oc < i→S.qo i = zQo
  q:∀ h ∈ t.hs,QH S sd seq h
  cover:∀ o ∈ seq,∃ h ∈ t.hs,(S.nd h).ticks = o.ticks
theorem ti_zero (s:Bool):TI s zTS .nil:=⟨rfl,by simp [Tr.hs],by simp [Tr.hs],rfl,by simp [Tr.hs],fun _ _=>rfl⟩
theorem qi_zero (sd:Int):QI zTS .nil sd []:=⟨rfl,by simp,fun _ _=>rfl,by simp [Tr.hs],by simp⟩
def TS.lay (S:TS) (o:Od):TS:={ S with oc:=S.oc + 1,qo:=upd S.qo (S.oc + 1) ⟨o,0⟩ }
def TS.link (S:TS) (h n:Nat) (lf:Int):TS :=
  { S with nd:=upd S.nd h { S.nd h with el:=if (S.nd h).yo = 0 then n else (S.nd h).el,yo:=n,qty:=(S.nd h).qty + lf,count:=(S.nd h).count + 1 },
           qo:=if (S.nd h).yo = 0 then S.qo else upd S.qo (S.nd h).yo { S.qo (S.nd h).yo with yg:=n } }
theorem ti_lay {s:Bool} {S:TS} {t:Tr} (o:Od) (h:TI s S t):TI s (S.lay o) t:=⟨h.rep,h.nodup,h.range,h.len,h.sorted,h.fresh⟩
theorem dL (S:TS) (h n:Nat) (lf:Int) (a:Nat):((S.link h n lf).nd a).ticks = (S.nd a).ticks:=by
  simp only [TS.link,upd]; split <;> simp_all
theorem link_tree (S:TS) (h n:Nat) (lf:Int) (a:Nat):((S.link h n lf).nd a).be = (S.nd a).be∧((S.link h n lf).nd a).wo = (S.nd a).wo:=by
  simp only [TS.link,upd]; split <;> simp_all
theorem ti_link {s:Bool} {S:TS} {t:Tr} {h:Nat} (n:Nat) (lf:Int) (hi:TI s S t) (hh:h ∈ t.hs):TI s (S.link h n lf) t:=by
  refine ⟨cI (fun a _=>link_tree S h n lf a) hi.rep,hi.nodup,hi.range,hi.len,hi.sorted.imp fun {a b} hab=>?_,fun a ha=>?_⟩
  · rw [dL,dL]; exact hab
  · have Q:=(hi.range h hh).2
    have N:S.lc < a:=ha
    show upd _ _ _ _ = _
    rw [zo _ _ (by omega)]
    exact hi.fresh a ha
theorem dS {y:Nat→Nat}:∀ {l:List Nat} {v z:Nat},Chain y v l→l.getLast? = some z→0 < z
  | [],_,_,_,h=>by simp at h
  | [a],_,_,⟨_,N,_⟩,h=>by simp at h; omega
  | a :: b :: r,_,_,⟨_,_,h3⟩,h=>dS h3 (by rw [List.getLast?_cons_cons] at h; exact h)
theorem cR (seq:List Od) (o:Od) (k:Int):qs (seq ++ [o]) k = qs seq k ++ (if o.ticks = k then [1 + seq.length] else []):=qsF_snoc k o seq 1
theorem atK_snoc (seq:List Od) (o:Od) (k:Int):atK (seq ++ [o]) k = atK seq k ++ (if o.ticks = k then [o] else []):=by
  unfold atK; rw [List.filter_append]; congr 1
  by_cases h:o.ticks = k <;> simp [h]
theorem qi_link {s:Bool} {S:TS} {t:Tr} {sd:Int} {seq:List Od} {o:Od} {h:Nat} (hi:TI s S t) (hoc:S.oc = seq.length + 1)
    (hod:∀ i o',(seq ++ [o])[i]? = some o'→(S.qo (1 + i)).od = o') (oJ:∀ i,S.oc < i→S.qo i = zQo) (hyn:(S.qo (1 + seq.length)).yg = 0)
    (hq:∀ a ∈ t.hs,a ≠ h→QH S sd seq a) (hcov:∀ o ∈ seq,∃ h ∈ t.hs,(S.nd h).ticks = o.ticks)
    (hh:h ∈ t.hs) (hk:(S.nd h).ticks = o.ticks)
    (hH:QH S sd seq h ∨ ((∀ o' ∈ seq,o'.ticks ≠ o.ticks)∧S.nd h = { zNd with side:=sd,ticks:=o.ticks,be:=(S.nd h).be,wo:=(S.nd h).wo })) :
    QI (S.link h (1 + seq.length) o.left) t sd (seq ++ [o]):=by
  have hqlt:∀ k a,a ∈ qs seq k→a < 1 + seq.length∧0 < a:=fun k a ha=>by
    obtain ⟨Q,N,_⟩:=bD k seq 1 a ha; omega
  have hyo:(S.nd h).yo = 0 ∨ (0 < (S.nd h).yo∧(S.nd h).yo ∈ qs seq o.ticks):=by
    rcases hH with hH | ⟨_,hz⟩
    · have:=hH.last; rw [hk] at this
      exact .inr ⟨dS hH.chain hH.last,List.mem_of_getLast? this⟩
    · rw [hz]; exact .inl rfl
  have hodk:∀ i,((S.link h (1 + seq.length) o.left).qo i).od = (S.qo i).od:=fun i=>by
    simp only [TS.link]; split
    · rfl
    · simp only [upd]; split <;> simp_all
  refine ⟨?_,fun i o' vy=>by rw [hodk]; exact hod i o' vy,fun i vy=>?_,fun a ha=>?_,fun o' vC=>?_⟩
  · show S.oc = _; simp [hoc]
  · have vy:S.oc < i:=vy
    simp only [TS.link]; split
    · exact oJ i vy
    · rcases hyo with h0 | ⟨h0,Q⟩
      · contradiction
      · rw [zo _ _ (by have:=hqlt _ _ Q; omega)]; exact oJ i vy
  · by_cases hah:a = h
    · subst hah
      have qR:(S.link a (1 + seq.length) o.left).nd a = { S.nd a with el:=if (S.nd a).yo = 0 then (1 + seq.length) else (S.nd a).el,yo:=(1 + seq.length),qty:=(S.nd a).qty + o.left,count:=(S.nd a).count + 1 }:=zn _ _ _
      rcases hH with hH | ⟨ja,hz⟩
      · have jy:=dS hH.chain hH.last
        have jm:(S.nd a).yo ≠ 0:=by omega
        have hqq:(S.link a (1 + seq.length) o.left).qo = upd S.qo (S.nd a).yo { S.qo (S.nd a).yo with yg:=(1 + seq.length) }:=by simp [TS.link,jm]
        constructor
        · rw [qR]; exact hH.side
        · rw [qR]; show qs (seq ++ [o]) (S.nd a).ticks ≠ []; rw [cR,if_pos hk.symm]; simp
        · rw [qR]; show Chain _ (if (S.nd a).yo = 0 then (1 + seq.length) else (S.nd a).el) (qs (seq ++ [o]) (S.nd a).ticks)
          rw [if_neg jm,cR,if_pos hk.symm]
          have hc:=chain_snoc (n:=1 + seq.length) (by omega) hyn hH.chain (qsF_nodup _ _ _) hH.last (fun h=>by have:=(hqlt _ _ h).1; omega)
          refine dm (fun b _=>?_) hc
          rw [hqq]; simp only [upd]; split <;> simp_all
        · rw [qR]; show (qs (seq ++ [o]) (S.nd a).ticks).getLast? = some (1 + seq.length)
          rw [cR,if_pos hk.symm]; simp
        · rw [qR]; show (S.nd a).qty + o.left = sumQ (atK (seq ++ [o]) (S.nd a).ticks)
          rw [atK_snoc,if_pos hk.symm,sumQ_snoc,hH.qty]
        · rw [qR]; show (S.nd a).count + 1 = ((atK (seq ++ [o]) (S.nd a).ticks).length:Int)
          rw [atK_snoc,if_pos hk.symm,hH.cnt]; simp
      · have hyz:(S.nd a).yo = 0:=by rw [hz]; rfl
        have hqz:(S.nd a).qty = 0:=by rw [hz]; rfl
        have hcz:(S.nd a).count = 0:=by rw [hz]; rfl
        have jJ:(S.nd a).side = sd:=by rw [hz]
        have hqn:qs seq (S.nd a).ticks = []:=by rw [hk]; exact qsF_nil _ _ _ ja
        have han:atK seq (S.nd a).ticks = []:=by rw [hk]; unfold atK; rw [List.filter_eq_nil_iff]; intro b L; simpa using ja b L
        have hqq:(S.link a (1 + seq.length) o.left).qo = S.qo:=by simp [TS.link,hyz]
        constructor
        · rw [qR]; exact jJ
        · rw [qR]; show qs (seq ++ [o]) (S.nd a).ticks ≠ []; rw [cR,if_pos hk.symm]; simp
        · rw [qR]; show Chain _ (if (S.nd a).yo = 0 then (1 + seq.length) else (S.nd a).el) (qs (seq ++ [o]) (S.nd a).ticks)
          rw [if_pos hyz,cR,if_pos hk.symm,hqn,hqq]
          exact ⟨rfl,by omega,hyn⟩
        · rw [qR]; show (qs (seq ++ [o]) (S.nd a).ticks).getLast? = some (1 + seq.length)
          rw [cR,if_pos hk.symm]; simp
        · rw [qR]; show (S.nd a).qty + o.left = sumQ (atK (seq ++ [o]) (S.nd a).ticks)
          rw [atK_snoc,if_pos hk.symm,sumQ_snoc,hqz,han]; rfl
        · rw [qR]; show (S.nd a).count + 1 = ((atK (seq ++ [o]) (S.nd a).ticks).length:Int)
          rw [atK_snoc,if_pos hk.symm,hcz,han]; simp
    · have hqa:=hq a ha hah
      have qR:(S.link h (1 + seq.length) o.left).nd a = S.nd a:=zo _ _ hah
      have xB:¬ o.ticks = (S.nd a).ticks:=by
        intro e
        have hp:=hi.sorted
        have:∀ {l:List Nat},l.Pairwise (fun a b=>bt s (S.nd a).ticks (S.nd b).ticks)→a ∈ l→h ∈ l→False:=by
          intro l
          induction l with
          | nil=>intro _ h; simp at h
          | cons x r ih =>
            intro hp Q N
            obtain ⟨p1,p2⟩:=List.pairwise_cons.1 hp
            rcases List.mem_cons.1 Q with rfl | oE <;> rcases List.mem_cons.1 N with N | js
            · exact hah N.symm
            · have:=p1 h js; rw [hk,e] at this; exact bt_irr _ _ this
            · subst N; have:=p1 a oE; rw [hk,e] at this; exact bt_irr _ _ this
            · exact ih p2 oE js
        exact this hp ha hh
      have hqs:qs (seq ++ [o]) (S.nd a).ticks = qs seq (S.nd a).ticks:=by rw [cR,if_neg xB,List.append_nil]
      have hak:atK (seq ++ [o]) (S.nd a).ticks = atK seq (S.nd a).ticks:=by rw [atK_snoc,if_neg xB,List.append_nil]
      constructor
      · rw [qR]; exact hqa.side
      · rw [qR,hqs]; exact hqa.ne
      · rw [qR,hqs]
        refine dm (fun b L=>?_) hqa.chain
        rcases hyo with h0 | ⟨h0,Q⟩
        · simp [TS.link,h0]
        · have hbne:b ≠ (S.nd h).yo:=by
            rintro rfl
            obtain ⟨_,_,o1,e1,e2⟩:=bD _ _ _ _ L
            obtain ⟨_,_,o2,e3,e4⟩:=bD _ _ _ _ Q
            rw [e1] at e3
            obtain rfl:=Option.some.inj e3
            exact xB (e4.symm.trans e2)
          simp only [TS.link]; split
          · rfl
          · rw [zo _ _ hbne]
      · rw [qR,hqs]; exact hqa.last
      · rw [qR,hak]; exact hqa.qty
      · rw [qR,hak]; exact hqa.cnt
  · rcases List.mem_append.1 vC with vC | vC
    · obtain ⟨b,Q,N⟩:=hcov o' vC
      exact ⟨b,Q,by rw [dL]; exact N⟩
    · simp at vC; subst vC
      exact ⟨h,hh,by rw [dL]; exact hk⟩
theorem add_found {s:Bool} {S:TS} {t:Tr} {sd:Int} {seq:List Od} {o:Od} {h:Nat} (hi:TI s S t) (hq:QI S t sd seq) (hh:h ∈ t.hs) (hk:(S.nd h).ticks = o.ticks) :
    TI s ((S.lay o).link h (1 + seq.length) o.left) t∧QI ((S.lay o).link h (1 + seq.length) o.left) t sd (seq ++ [o]):=by
  have hqk:∀ i,i ≠ 1 + seq.length→(S.lay o).qo i = S.qo i:=fun i vy=>zo _ _ (by rw [hq.oc]; omega)
  have hqn:(S.lay o).qo (1 + seq.length) = ⟨o,0⟩:=by simp [TS.lay,upd,hq.oc]; omega
  have hqh:∀ a ∈ t.hs,QH (S.lay o) sd seq a:=fun a ha=>by
    have:=hq.q a ha
    exact ⟨this.side,this.ne,dm (fun b L=>by rw [hqk b (by have:=(bD _ _ _ _ L).2.1; omega)]) this.chain,this.last,this.qty,this.cnt⟩
  refine ⟨ti_link _ _ (ti_lay o hi) hh,qi_link (ti_lay o hi) (by show S.oc + 1 = _; rw [hq.oc]) (fun i o' vy=>?_) (fun i vy=>?_) (by rw [hqn]) (fun a ha _=>hqh a ha) hq.cover hh hk (.inl (hqh h hh))⟩
  · by_cases xK:i < seq.length
    · rw [List.getElem?_append_left xK] at vy
      rw [hqk _ (by omega)]; exact hq.od i o' vy
    · have oP:i < (seq ++ [o]).length:=(yG.1 vy).1
      have:i = seq.length:=by simp at oP; omega
      subst this
      simp at vy; subst vy
      rw [hqn]
  · have vy:S.oc + 1 < i:=vy
    rw [hqk _ (by rw [← hq.oc]; omega)]; exact hq.fresh i (by omega)
theorem add_new {s:Bool} {S:TS} {t:Tr} {seq:List Od} {o:Od} {c:Ctx} {u:Tr} (hi:TI s S t) (hq:QI S t o.side seq) (hw:Way s (S.lay o) t o.ticks c u) (h0:(S.lay o).rd (zS c) = 0) :
    TI s (((S.lay o).grow (zS c) o.side o.ticks).link (S.lc + 1) (1 + seq.length) o.left) (plug c (.node (S.lc + 1) .nil .nil)) ∧
    QI (((S.lay o).grow (zS c) o.side o.ticks).link (S.lc + 1) (1 + seq.length) o.left) (plug c (.node (S.lc + 1) .nil .nil)) o.side (seq ++ [o])∧(∀ o' ∈ seq,o'.ticks ≠ o.ticks):=by
  obtain ⟨hg,ht,ja⟩:=ti_grow (sd:=o.side) (ti_lay o hi) hw h0
  have hg:TI s ((S.lay o).grow (zS c) o.side o.ticks) (plug c (.node (S.lc + 1) .nil .nil)):=hg
  have hhs:(plug c (.node (S.lc + 1) .nil .nil)).hs = cl c ++ (S.lc + 1) :: cr c:=by rw [cG]; simp [Tr.hs]
  have kZ:S.lc + 1 ∉ cl c ++ cr c:=by
    rw [← ht]; intro hm; have:=(hi.range _ hm).2; omega
  have hqo:((S.lay o).grow (zS c) o.side o.ticks).qo = (S.lay o).qo:=(wr_same (S.lay o) _ _).2.2
  have hqk:∀ i,i ≠ 1 + seq.length→(S.lay o).qo i = S.qo i:=fun i vy=>zo _ _ (by rw [hq.oc]; omega)
  have hqn:(S.lay o).qo (1 + seq.length) = ⟨o,0⟩:=by simp [TS.lay,upd,hq.oc]; omega
  have hag:∀ b ∈ t.hs,((S.lay o).grow (zS c) o.side o.ticks).nd b = ((S.lay o).wr (S.lc + 1) (zS c)).nd b:=fun b L=>zo _ _ (fun e=>kZ (by rw [← ht]; exact e ▸ L))
  have vn:∀ b,b ∈ (plug c (.node (S.lc + 1) .nil .nil)).hs→b ≠ S.lc + 1→b ∈ t.hs:=fun b L xB=>by
    rw [hhs] at L; rw [ht]
    simp only [List.mem_append,List.mem_cons] at L ⊢
    rcases L with h | h | h
    · exact .inl h
    · exact absurd h xB
    · exact .inr h
  have hnos:∀ o' ∈ seq,o'.ticks ≠ o.ticks:=fun o' vC e=>by
    obtain ⟨b,Q,N⟩:=hq.cover o' vC
    exact ja b Q (N.trans e)
  have uu:S.lc + 1 ∈ (plug c (.node (S.lc + 1) .nil .nil)).hs:=by rw [hhs]; simp
  have qR:((S.lay o).grow (zS c) o.side o.ticks).nd (S.lc + 1) = { zNd with side:=o.side,ticks:=o.ticks }:=by
    show upd _ _ _ _ = _
    have Q:((S.lay o).wr (S.lc + 1) (zS c)).nd (S.lc + 1) = zNd:=by
      rw [wr_nd_out (S.lay o) _ c _ kZ]; exact hi.fresh _ (by omega)
    have N:(S.lay o).lc + 1 = S.lc + 1:=rfl
    rw [N,zn,Q]
    rfl
  refine ⟨ti_link _ _ hg uu,qi_link hg ?_ (fun i o' vy=>?_) (fun i vy=>?_) (by rw [hqo,hqn]) (fun a ha xB=>?_) (fun o' vC=>?_) uu (by rw [qR]) (.inr ⟨hnos,by rw [qR]⟩),hnos⟩
  · show ((S.lay o).wr _ _).oc = _
    rw [(wr_same (S.lay o) _ _).2.1]; show S.oc + 1 = _; rw [hq.oc]
  · rw [hqo]
    by_cases xK:i < seq.length
    · rw [List.getElem?_append_left xK] at vy
      rw [hqk _ (by omega)]; exact hq.od i o' vy
    · have oP:i < (seq ++ [o]).length:=(yG.1 vy).1
      have:i = seq.length:=by simp at oP; omega
      subst this
      simp at vy; subst vy
      rw [hqn]
  · have vy:((S.lay o).wr (S.lc + 1) (zS c)).oc < i:=vy
    rw [(wr_same (S.lay o) _ _).2.1] at vy
    have vy:S.oc + 1 < i:=vy
    rw [hqo,hqk _ (by rw [← hq.oc]; omega)]; exact hq.fresh i (by omega)
  · have L:=vn a ha xB
    have hQ:=hq.q a L
    obtain ⟨r1,r2,r3,r4,r5⟩:=wr_nd_rest (S.lay o) (S.lc + 1) (zS c) a
    have r6:=dV (S.lay o) (S.lc + 1) (zS c) a
    constructor
    · rw [hag a L,r1]; exact hQ.side
    · rw [hag a L,r6]; exact hQ.ne
    · rw [hag a L,r6,r4,hqo]
      exact dm (fun b L=>by rw [hqk b (by have:=(bD _ _ _ _ L).2.1; omega)]) hQ.chain
    · rw [hag a L,r6,r5]; exact hQ.last
    · rw [hag a L,r6,r2]; exact hQ.qty
    · rw [hag a L,r6,r3]; exact hQ.cnt
  · obtain ⟨b,Q,N⟩:=hq.cover o' vC
    refine ⟨b,?_,?_⟩
    · rw [hhs]; rw [ht] at Q; simp only [List.mem_append,List.mem_cons] at Q ⊢; rcases Q with h | h <;> simp [h]
    · rw [hag b Q,dV]; exact N
theorem add_ready {s:Bool} {S S3:TS} {t:Tr} {seq:List Od} {o:Od} {h:Nat} (hi:TI s S t) (hq:QI S t o.side seq)
    (hc:(h ∈ t.hs∧((S.lay o).nd h).ticks = o.ticks∧S3 = S.lay o) ∨ (∃ c u,Way s (S.lay o) t o.ticks c u∧(S.lay o).rd (zS c) = 0∧h = (S.lay o).lc + 1∧S3 = (S.lay o).grow (zS c) o.side o.ticks)) :
    (S3.nd h).yo < 1 + seq.length∧(S3.nd h).qty = sumQ (atK seq o.ticks)∧(S3.nd h).count = (atK seq o.ticks).length∧S3.lc ≤ S.lc + 1∧h ≤ S.lc + 1 ∧
      ∃ t',TI s (S3.link h (1 + seq.length) o.left) t'∧QI (S3.link h (1 + seq.length) o.left) t' o.side (seq ++ [o]):=by
  rcases hc with ⟨hh,hk,rfl⟩ | ⟨c,u,hw,h0,rfl,rfl⟩
  · have hQ:=hq.q h hh
    have kY:(S.nd h).ticks = o.ticks:=hk
    have hm:=List.mem_of_getLast? hQ.last
    have hr:=hi.range h hh
    refine ⟨(bD _ _ _ _ hm).2.1,by rw [← kY]; exact hQ.qty,by rw [← kY]; exact hQ.cnt,Nat.le_succ _,by omega,t,?_⟩
    exact add_found hi hq hh hk
  · obtain ⟨Q,N,h3⟩:=add_new hi hq hw h0
    obtain ⟨hg,ht,ja⟩:=ti_grow (sd:=o.side) (ti_lay o hi) hw h0
    have kZ:S.lc + 1 ∉ cl c ++ cr c:=by
      rw [← ht]; intro hm; have:=(hi.range _ hm).2; omega
    have qR:((S.lay o).grow (zS c) o.side o.ticks).nd (S.lc + 1) = { zNd with side:=o.side,ticks:=o.ticks }:=by
      show upd _ _ _ _ = _
      have Q:((S.lay o).wr (S.lc + 1) (zS c)).nd (S.lc + 1) = zNd:=by
        rw [wr_nd_out (S.lay o) _ c _ kZ]; exact hi.fresh _ (by omega)
      have N:(S.lay o).lc + 1 = S.lc + 1:=rfl
      rw [N,zn,Q]
      rfl
    have qn:(S.lay o).lc + 1 = S.lc + 1:=rfl
    have hak:atK seq o.ticks = []:=by unfold atK; rw [List.filter_eq_nil_iff]; intro b L; simpa using h3 b L
    rw [qn,qR,hak]
    exact ⟨by show 0 < _; omega,rfl,rfl,Nat.le_refl _,Nat.le_refl _,_,Q,N⟩
end Go.Proofs.YtdliebbfcmdmaaaGreat
