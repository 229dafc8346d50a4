/-
  The queues of a tree of levels, as pure data: an order that is added stands last in its level's queue; no function walked.
-/
import Derived.Test.YtopjoogdpjaocaaGreatTj02
set_option linter.unusedVariables false
set_option maxHeartbeats 6400000
set_option maxRecDepth 100000
namespace Go.Proofs.YtopjoogdpjaocaaGreat
open Go.RowKit
def qsF (k:Int):Nat→List Od→List Nat
  | _,[]=>[]
  | n,o :: r=>if o.ticks = k then n :: qsF k (n + 1) r else qsF k (n + 1) r
theorem qsF_snoc (k:Int) (o:Od):∀ (l:List Od) (n:Nat),qsF k n (l ++ [o]) = qsF k n l ++ (if o.ticks = k then [n + l.length] else [])
  | [],n=>by simp [qsF]
  | a :: l,n=>by
    rw [List.cons_append,qsF,qsF_snoc k o l,qsF]
    have:n + 1 + l.length = n + (a :: l).length:=by simp; omega
    rw [this]; split <;> simp
theorem zbb (k:Int):∀ (l:List Od) (n a:Nat),a ∈ qsF k n l→n ≤ a∧a < n + l.length∧∃ o,l[a - n]? = some o∧o.ticks = k
  | [],n,a,h=>by simp [qsF] at h
  | b :: l,n,a,h=>by
    rw [qsF] at h
    split at h
    · next hb =>
      rcases List.mem_cons.1 h with rfl | h
      · exact ⟨Nat.le_refl _,by simp,b,by simp,hb⟩
      · obtain ⟨h1,h2,o,h3,h4⟩:=zbb k l (n + 1) a h
        refine ⟨by omega,by simp; omega,o,?_,h4⟩
        rw [show a - n = (a - (n + 1)) + 1 by omega]; simpa using h3
    · obtain ⟨h1,h2,o,h3,h4⟩:=zbb k l (n + 1) a h
      refine ⟨by omega,by simp; omega,o,?_,h4⟩
      rw [show a - n = (a - (n + 1)) + 1 by omega]; simpa using h3
theorem qsF_nodup (k:Int):∀ (l:List Od) (n:Nat),(qsF k n l).Nodup
  | [],n=>by simp [qsF]
  | b :: l,n=>by
    rw [qsF]; split
    · exact List.nodup_cons.2 ⟨fun h=>by have:=(zbb k l (n + 1) n h).1; omega,qsF_nodup k l _⟩
    · exact qsF_nodup k l _
theorem qsF_nil (k:Int):∀ (l:List Od) (n:Nat),(∀ o ∈ l,o.ticks ≠ k)→qsF k n l = []
  | [],_,_=>rfl
  | b :: l,n,h=>by rw [qsF,if_neg (h b (by simp)),qsF_nil k l _ (fun o ho=>h o (by simp [ho]))]
theorem qsF_map (k:Int) (f:Nat→Od):∀ (l:List Od) (n:Nat),(∀ i o,l[i]? = some o→f (n + i) = o)→(qsF k n l).map f = l.filter (fun o=>decide (o.ticks = k))
  | [],_,_=>rfl
  | b :: l,n,h=>by
    have ih:=qsF_map k f l (n + 1) (fun i o ho=>by rw [show n + 1 + i = n + (i + 1) by omega]; exact h (i + 1) o (by simpa using ho))
    have h0:f n = b:=h 0 b (by simp)
    rw [qsF,List.filter_cons]
    by_cases hb:b.ticks = k
    · simp [hb,ih,h0]
    · simp [hb,ih]
def qs (seq:List Od) (k:Int):List Nat:=qsF k 1 seq
def atK (seq:List Od) (k:Int):List Od:=seq.filter (fun o=>decide (o.ticks = k))
def sumQ:List Od→Int
  | []=>0
  | o :: r=>o.left + sumQ r
theorem sumQ_snoc (o:Od):∀ l:List Od,sumQ (l ++ [o]) = sumQ l + o.left
  | []=>by simp [sumQ]
  | a :: l=>by rw [List.cons_append,sumQ,sumQ_snoc o l,sumQ]; omega
def Chain (yg:Nat→Nat):Nat→List Nat→Prop
  | v,[]=>v = 0
  | v,a :: r=>v = a∧0 < a∧Chain yg (yg a) r
theorem zbl {y y':Nat→Nat}:∀ {l:List Nat} {v:Nat},(∀ a ∈ l,y' a = y a)→Chain y v l→Chain y' v l
  | [],_,_,h=>h
  | a :: r,v,hc,⟨h1,h2,h3⟩=>⟨h1,h2,by rw [hc a (by simp)]; exact zbl (fun b hb=>hc b (by simp [hb])) h3⟩
theorem chain_snoc {y:Nat→Nat} {n z:Nat} (hn:0 < n) (hy:y n = 0):∀ {l:List Nat} {v:Nat},Chain y v l→l.Nodup→l.getLast? = some z→n ∉ l→Chain (upd y z n) v (l ++ [n])
  | [],_,_,_,hz,_=>by simp at hz
  | [a],v,⟨h1,h2,h3⟩,_,hz,hne=>by
    simp at hz; subst hz
    have hna:n ≠ a:=fun e=>hne (by simp [e])
    exact ⟨h1,h2,by rw [zp],hn,by rw [zq _ _ hna,hy]; rfl⟩
  | a :: b :: r,v,⟨h1,h2,h3⟩,hd,hz,hne=>by
    have hd':=List.nodup_cons.1 hd
    have hz':(b :: r).getLast? = some z:=by rw [List.getLast?_cons_cons] at hz; exact hz
    have hza:a ≠ z:=fun e=>hd'.1 (e ▸ List.mem_of_getLast? hz')
    refine ⟨h1,h2,?_⟩
    rw [zq _ _ hza]
    exact chain_snoc hn hy h3 hd'.2 hz' (fun h=>hne (by simp [h]))
structure QH (S:TS) (sd:Int) (seq:List Od) (h:Nat):Prop where
  side:(S.nd h).side = sd
  ne:qs seq (S.nd h).ticks ≠ []
  chain:Chain (fun i=>(S.qo i).yg) (S.nd h).el (qs seq (S.nd h).ticks)
  last:(qs seq (S.nd h).ticks).getLast? = some (S.nd h).yo
  qty:(S.nd h).qty = sumQ (atK seq (S.nd h).ticks)
  cnt:(S.nd h).count = (atK seq (S.nd h).ticks).length
structure QI (S:TS) (t:Tr) (sd:Int) (seq:List Od):Prop where
  oc:S.oc = seq.length
  od:∀ i o,seq[i]? = some o→(S.qo (1 + i)).od = o
  fresh:∀ i,S.oc < i→S.qo i = zQo
  q:∀ h ∈ t.hs,QH S sd seq h
  cover:∀ o ∈ seq,∃ h ∈ t.hs,(S.nd h).ticks = o.ticks
theorem ti_zero (s:Bool):TI s zTS .nil:=⟨rfl,by simp [Tr.hs],by simp [Tr.hs],rfl,by simp [Tr.hs],fun _ _=>rfl⟩
theorem qi_zero (sd:Int):QI zTS .nil sd []:=⟨rfl,by simp,fun _ _=>rfl,by simp [Tr.hs],by simp⟩
def TS.lay (S:TS) (o:Od):TS:={ S with oc:=S.oc + 1,qo:=upd S.qo (S.oc + 1) ⟨o,0⟩ }
def TS.link (S:TS) (h n:Nat) (lf:Int):TS :=
  { S with nd:=upd S.nd h { S.nd h with el:=if (S.nd h).yo = 0 then n else (S.nd h).el,yo:=n,qty:=(S.nd h).qty + lf,count:=(S.nd h).count + 1 },
           qo:=if (S.nd h).yo = 0 then S.qo else upd S.qo (S.nd h).yo { S.qo (S.nd h).yo with yg:=n } }
theorem ti_lay {s:Bool} {S:TS} {t:Tr} (o:Od) (h:TI s S t):TI s (S.lay o) t:=⟨h.rep,h.nodup,h.range,h.len,h.sorted,h.fresh⟩
theorem zca (S:TS) (h n:Nat) (lf:Int) (a:Nat):((S.link h n lf).nd a).ticks = (S.nd a).ticks:=by
  simp only [TS.link,upd]; split <;> simp_all
theorem link_tree (S:TS) (h n:Nat) (lf:Int) (a:Nat):((S.link h n lf).nd a).be = (S.nd a).be∧((S.link h n lf).nd a).wo = (S.nd a).wo:=by
  simp only [TS.link,upd]; split <;> simp_all
theorem ti_link {s:Bool} {S:TS} {t:Tr} {h:Nat} (n:Nat) (lf:Int) (hi:TI s S t) (hh:h ∈ t.hs):TI s (S.link h n lf) t:=by
  refine ⟨zbp (fun a _=>link_tree S h n lf a) hi.rep,hi.nodup,hi.range,hi.len,hi.sorted.imp fun {a b} hab=>?_,fun a ha=>?_⟩
  · rw [zca,zca]; exact hab
  · have h1:=(hi.range h hh).2
    have h2:S.lc < a:=ha
    show upd _ _ _ _ = _
    rw [zq _ _ (by omega)]
    exact hi.fresh a ha
theorem zck {y:Nat→Nat}:∀ {l:List Nat} {v z:Nat},Chain y v l→l.getLast? = some z→0 < z
  | [],_,_,_,h=>by simp at h
  | [a],_,_,⟨_,h2,_⟩,h=>by simp at h; omega
  | a :: b :: r,_,_,⟨_,_,h3⟩,h=>zck h3 (by rw [List.getLast?_cons_cons] at h; exact h)
theorem zcq (seq:List Od) (o:Od) (k:Int):qs (seq ++ [o]) k = qs seq k ++ (if o.ticks = k then [1 + seq.length] else []):=qsF_snoc k o seq 1
theorem atK_snoc (seq:List Od) (o:Od) (k:Int):atK (seq ++ [o]) k = atK seq k ++ (if o.ticks = k then [o] else []):=by
  unfold atK; rw [List.filter_append]; congr 1
  by_cases h:o.ticks = k <;> simp [h]
theorem qi_link {s:Bool} {S:TS} {t:Tr} {sd:Int} {seq:List Od} {o:Od} {h:Nat} (hi:TI s S t) (hoc:S.oc = seq.length + 1)
    (hod:∀ i o',(seq ++ [o])[i]? = some o'→(S.qo (1 + i)).od = o') (hfr:∀ i,S.oc < i→S.qo i = zQo) (hyn:(S.qo (1 + seq.length)).yg = 0)
    (hq:∀ a ∈ t.hs,a ≠ h→QH S sd seq a) (hcov:∀ o ∈ seq,∃ h ∈ t.hs,(S.nd h).ticks = o.ticks)
    (hh:h ∈ t.hs) (hk:(S.nd h).ticks = o.ticks)
    (hH:QH S sd seq h ∨ ((∀ o' ∈ seq,o'.ticks ≠ o.ticks)∧S.nd h = { zNd with side:=sd,ticks:=o.ticks,be:=(S.nd h).be,wo:=(S.nd h).wo })) :
    QI (S.link h (1 + seq.length) o.left) t sd (seq ++ [o]):=by
  have hqlt:∀ k a,a ∈ qs seq k→a < 1 + seq.length∧0 < a:=fun k a ha=>by
    obtain ⟨h1,h2,_⟩:=zbb k seq 1 a ha; omega
  have hyo:(S.nd h).yo = 0 ∨ (0 < (S.nd h).yo∧(S.nd h).yo ∈ qs seq o.ticks):=by
    rcases hH with hH | ⟨_,hz⟩
    · have:=hH.last; rw [hk] at this
      exact .inr ⟨zck hH.chain hH.last,List.mem_of_getLast? this⟩
    · rw [hz]; exact .inl rfl
  have hodk:∀ i,((S.link h (1 + seq.length) o.left).qo i).od = (S.qo i).od:=fun i=>by
    simp only [TS.link]; split
    · rfl
    · simp only [upd]; split <;> simp_all
  refine ⟨?_,fun i o' hi'=>by rw [hodk]; exact hod i o' hi',fun i hi'=>?_,fun a ha=>?_,fun o' ho'=>?_⟩
  · show S.oc = _; simp [hoc]
  · have hi':S.oc < i:=hi'
    simp only [TS.link]; split
    · exact hfr i hi'
    · rcases hyo with h0 | ⟨h0,h1⟩
      · contradiction
      · rw [zq _ _ (by have:=hqlt _ _ h1; omega)]; exact hfr i hi'
  · by_cases hah:a = h
    · subst hah
      have hnd:(S.link a (1 + seq.length) o.left).nd a = { S.nd a with el:=if (S.nd a).yo = 0 then (1 + seq.length) else (S.nd a).el,yo:=(1 + seq.length),qty:=(S.nd a).qty + o.left,count:=(S.nd a).count + 1 }:=zp _ _ _
      rcases hH with hH | ⟨hno,hz⟩
      · have hpos:=zck hH.chain hH.last
        have hq0:(S.nd a).yo ≠ 0:=by omega
        have hqq:(S.link a (1 + seq.length) o.left).qo = upd S.qo (S.nd a).yo { S.qo (S.nd a).yo with yg:=(1 + seq.length) }:=by simp [TS.link,hq0]
        constructor
        · rw [hnd]; exact hH.side
        · rw [hnd]; show qs (seq ++ [o]) (S.nd a).ticks ≠ []; rw [zcq,if_pos hk.symm]; simp
        · rw [hnd]; show Chain _ (if (S.nd a).yo = 0 then (1 + seq.length) else (S.nd a).el) (qs (seq ++ [o]) (S.nd a).ticks)
          rw [if_neg hq0,zcq,if_pos hk.symm]
          have hc:=chain_snoc (n:=1 + seq.length) (by omega) hyn hH.chain (qsF_nodup _ _ _) hH.last (fun h=>by have:=(hqlt _ _ h).1; omega)
          refine zbl (fun b _=>?_) hc
          rw [hqq]; simp only [upd]; split <;> simp_all
        · rw [hnd]; show (qs (seq ++ [o]) (S.nd a).ticks).getLast? = some (1 + seq.length)
          rw [zcq,if_pos hk.symm]; simp
        · rw [hnd]; show (S.nd a).qty + o.left = sumQ (atK (seq ++ [o]) (S.nd a).ticks)
          rw [atK_snoc,if_pos hk.symm,sumQ_snoc,hH.qty]
        · rw [hnd]; show (S.nd a).count + 1 = ((atK (seq ++ [o]) (S.nd a).ticks).length:Int)
          rw [atK_snoc,if_pos hk.symm,hH.cnt]; simp
      · have hyz:(S.nd a).yo = 0:=by rw [hz]; rfl
        have hqz:(S.nd a).qty = 0:=by rw [hz]; rfl
        have hcz:(S.nd a).count = 0:=by rw [hz]; rfl
        have hsz:(S.nd a).side = sd:=by rw [hz]
        have hqn:qs seq (S.nd a).ticks = []:=by rw [hk]; exact qsF_nil _ _ _ hno
        have han:atK seq (S.nd a).ticks = []:=by rw [hk]; unfold atK; rw [List.filter_eq_nil_iff]; intro b hb; simpa using hno b hb
        have hqq:(S.link a (1 + seq.length) o.left).qo = S.qo:=by simp [TS.link,hyz]
        constructor
        · rw [hnd]; exact hsz
        · rw [hnd]; show qs (seq ++ [o]) (S.nd a).ticks ≠ []; rw [zcq,if_pos hk.symm]; simp
        · rw [hnd]; show Chain _ (if (S.nd a).yo = 0 then (1 + seq.length) else (S.nd a).el) (qs (seq ++ [o]) (S.nd a).ticks)
          rw [if_pos hyz,zcq,if_pos hk.symm,hqn,hqq]
          exact ⟨rfl,by omega,hyn⟩
        · rw [hnd]; show (qs (seq ++ [o]) (S.nd a).ticks).getLast? = some (1 + seq.length)
          rw [zcq,if_pos hk.symm]; simp
        · rw [hnd]; show (S.nd a).qty + o.left = sumQ (atK (seq ++ [o]) (S.nd a).ticks)
          rw [atK_snoc,if_pos hk.symm,sumQ_snoc,hqz,han]; rfl
        · rw [hnd]; show (S.nd a).count + 1 = ((atK (seq ++ [o]) (S.nd a).ticks).length:Int)
          rw [atK_snoc,if_pos hk.symm,hcz,han]; simp
    · have hqa:=hq a ha hah
      have hnd:(S.link h (1 + seq.length) o.left).nd a = S.nd a:=zq _ _ hah
      have hne:¬ o.ticks = (S.nd a).ticks:=by
        intro e
        have hp:=hi.sorted
        have:∀ {l:List Nat},l.Pairwise (fun a b=>bt s (S.nd a).ticks (S.nd b).ticks)→a ∈ l→h ∈ l→False:=by
          intro l
          induction l with
          | nil=>intro _ h; simp at h
          | cons x r ih =>
            intro hp h1 h2
            obtain ⟨p1,p2⟩:=List.pairwise_cons.1 hp
            rcases List.mem_cons.1 h1 with rfl | h1' <;> rcases List.mem_cons.1 h2 with h2 | h2'
            · exact hah h2.symm
            · have:=p1 h h2'; rw [hk,e] at this; exact bt_irr _ _ this
            · subst h2; have:=p1 a h1'; rw [hk,e] at this; exact bt_irr _ _ this
            · exact ih p2 h1' h2'
        exact this hp ha hh
      have hqs:qs (seq ++ [o]) (S.nd a).ticks = qs seq (S.nd a).ticks:=by rw [zcq,if_neg hne,List.append_nil]
      have hak:atK (seq ++ [o]) (S.nd a).ticks = atK seq (S.nd a).ticks:=by rw [atK_snoc,if_neg hne,List.append_nil]
      constructor
      · rw [hnd]; exact hqa.side
      · rw [hnd,hqs]; exact hqa.ne
      · rw [hnd,hqs]
        refine zbl (fun b hb=>?_) hqa.chain
        rcases hyo with h0 | ⟨h0,h1⟩
        · simp [TS.link,h0]
        · have hbne:b ≠ (S.nd h).yo:=by
            rintro rfl
            obtain ⟨_,_,o1,e1,e2⟩:=zbb _ _ _ _ hb
            obtain ⟨_,_,o2,e3,e4⟩:=zbb _ _ _ _ h1
            rw [e1] at e3
            obtain rfl:=Option.some.inj e3
            exact hne (e4.symm.trans e2)
          simp only [TS.link]; split
          · rfl
          · rw [zq _ _ hbne]
      · rw [hnd,hqs]; exact hqa.last
      · rw [hnd,hak]; exact hqa.qty
      · rw [hnd,hak]; exact hqa.cnt
  · rcases List.mem_append.1 ho' with ho' | ho'
    · obtain ⟨b,h1,h2⟩:=hcov o' ho'
      exact ⟨b,h1,by rw [zca]; exact h2⟩
    · simp at ho'; subst ho'
      exact ⟨h,hh,by rw [zca]; exact hk⟩
theorem add_found {s:Bool} {S:TS} {t:Tr} {sd:Int} {seq:List Od} {o:Od} {h:Nat} (hi:TI s S t) (hq:QI S t sd seq) (hh:h ∈ t.hs) (hk:(S.nd h).ticks = o.ticks) :
    TI s ((S.lay o).link h (1 + seq.length) o.left) t∧QI ((S.lay o).link h (1 + seq.length) o.left) t sd (seq ++ [o]):=by
  have hqk:∀ i,i ≠ 1 + seq.length→(S.lay o).qo i = S.qo i:=fun i hi'=>zq _ _ (by rw [hq.oc]; omega)
  have hqn:(S.lay o).qo (1 + seq.length) = ⟨o,0⟩:=by simp [TS.lay,upd,hq.oc]; omega
  have hqh:∀ a ∈ t.hs,QH (S.lay o) sd seq a:=fun a ha=>by
    have:=hq.q a ha
    exact ⟨this.side,this.ne,zbl (fun b hb=>by rw [hqk b (by have:=(zbb _ _ _ _ hb).2.1; omega)]) this.chain,this.last,this.qty,this.cnt⟩
  refine ⟨ti_link _ _ (ti_lay o hi) hh,qi_link (ti_lay o hi) (by show S.oc + 1 = _; rw [hq.oc]) (fun i o' hi'=>?_) (fun i hi'=>?_) (by rw [hqn]) (fun a ha _=>hqh a ha) hq.cover hh hk (.inl (hqh h hh))⟩
  · by_cases hlt:i < seq.length
    · rw [List.getElem?_append_left hlt] at hi'
      rw [hqk _ (by omega)]; exact hq.od i o' hi'
    · have hlt2:i < (seq ++ [o]).length:=(List.getElem?_eq_some_iff.1 hi').1
      have:i = seq.length:=by simp at hlt2; omega
      subst this
      simp at hi'; subst hi'
      rw [hqn]
  · have hi':S.oc + 1 < i:=hi'
    rw [hqk _ (by rw [← hq.oc]; omega)]; exact hq.fresh i (by omega)
theorem add_new {s:Bool} {S:TS} {t:Tr} {seq:List Od} {o:Od} {c:Ctx} {u:Tr} (hi:TI s S t) (hq:QI S t o.side seq) (hw:Way s (S.lay o) t o.ticks c u) (h0:(S.lay o).rd (zR c) = 0) :
    TI s (((S.lay o).grow (zR c) o.side o.ticks).link (S.lc + 1) (1 + seq.length) o.left) (plug c (.node (S.lc + 1) .nil .nil)) ∧
    QI (((S.lay o).grow (zR c) o.side o.ticks).link (S.lc + 1) (1 + seq.length) o.left) (plug c (.node (S.lc + 1) .nil .nil)) o.side (seq ++ [o])∧(∀ o' ∈ seq,o'.ticks ≠ o.ticks):=by
  obtain ⟨hg,ht,hno⟩:=ti_grow (sd:=o.side) (ti_lay o hi) hw h0
  have hg:TI s ((S.lay o).grow (zR c) o.side o.ticks) (plug c (.node (S.lc + 1) .nil .nil)):=hg
  have hhs:(plug c (.node (S.lc + 1) .nil .nil)).hs = cl c ++ (S.lc + 1) :: cr c:=by rw [zbV]; simp [Tr.hs]
  have hnew:S.lc + 1 ∉ cl c ++ cr c:=by
    rw [← ht]; intro hm; have:=(hi.range _ hm).2; omega
  have hqo:((S.lay o).grow (zR c) o.side o.ticks).qo = (S.lay o).qo:=(wr_same (S.lay o) _ _).2.2
  have hqk:∀ i,i ≠ 1 + seq.length→(S.lay o).qo i = S.qo i:=fun i hi'=>zq _ _ (by rw [hq.oc]; omega)
  have hqn:(S.lay o).qo (1 + seq.length) = ⟨o,0⟩:=by simp [TS.lay,upd,hq.oc]; omega
  have hag:∀ b ∈ t.hs,((S.lay o).grow (zR c) o.side o.ticks).nd b = ((S.lay o).wr (S.lc + 1) (zR c)).nd b:=fun b hb=>zq _ _ (fun e=>hnew (by rw [← ht]; exact e ▸ hb))
  have hmem:∀ b,b ∈ (plug c (.node (S.lc + 1) .nil .nil)).hs→b ≠ S.lc + 1→b ∈ t.hs:=fun b hb hne=>by
    rw [hhs] at hb; rw [ht]
    simp only [List.mem_append,List.mem_cons] at hb ⊢
    rcases hb with h | h | h
    · exact .inl h
    · exact absurd h hne
    · exact .inr h
  have hnos:∀ o' ∈ seq,o'.ticks ≠ o.ticks:=fun o' ho' e=>by
    obtain ⟨b,h1,h2⟩:=hq.cover o' ho'
    exact hno b h1 (h2.trans e)
  have hin:S.lc + 1 ∈ (plug c (.node (S.lc + 1) .nil .nil)).hs:=by rw [hhs]; simp
  have hnd:((S.lay o).grow (zR c) o.side o.ticks).nd (S.lc + 1) = { zNd with side:=o.side,ticks:=o.ticks }:=by
    show upd _ _ _ _ = _
    have h1:((S.lay o).wr (S.lc + 1) (zR c)).nd (S.lc + 1) = zNd:=by
      rw [wr_nd_out (S.lay o) _ c _ hnew]; exact hi.fresh _ (by omega)
    have h2:(S.lay o).lc + 1 = S.lc + 1:=rfl
    rw [h2,zp,h1]
    rfl
  refine ⟨ti_link _ _ hg hin,qi_link hg ?_ (fun i o' hi'=>?_) (fun i hi'=>?_) (by rw [hqo,hqn]) (fun a ha hne=>?_) (fun o' ho'=>?_) hin (by rw [hnd]) (.inr ⟨hnos,by rw [hnd]⟩),hnos⟩
  · show ((S.lay o).wr _ _).oc = _
    rw [(wr_same (S.lay o) _ _).2.1]; show S.oc + 1 = _; rw [hq.oc]
  · rw [hqo]
    by_cases hlt:i < seq.length
    · rw [List.getElem?_append_left hlt] at hi'
      rw [hqk _ (by omega)]; exact hq.od i o' hi'
    · have hlt2:i < (seq ++ [o]).length:=(List.getElem?_eq_some_iff.1 hi').1
      have:i = seq.length:=by simp at hlt2; omega
      subst this
      simp at hi'; subst hi'
      rw [hqn]
  · have hi':((S.lay o).wr (S.lc + 1) (zR c)).oc < i:=hi'
    rw [(wr_same (S.lay o) _ _).2.1] at hi'
    have hi':S.oc + 1 < i:=hi'
    rw [hqo,hqk _ (by rw [← hq.oc]; omega)]; exact hq.fresh i (by omega)
  · have hb:=hmem a ha hne
    have hQ:=hq.q a hb
    obtain ⟨r1,r2,r3,r4,r5⟩:=wr_nd_rest (S.lay o) (S.lc + 1) (zR c) a
    have r6:=zcs (S.lay o) (S.lc + 1) (zR c) a
    constructor
    · rw [hag a hb,r1]; exact hQ.side
    · rw [hag a hb,r6]; exact hQ.ne
    · rw [hag a hb,r6,r4,hqo]
      exact zbl (fun b hb=>by rw [hqk b (by have:=(zbb _ _ _ _ hb).2.1; omega)]) hQ.chain
    · rw [hag a hb,r6,r5]; exact hQ.last
    · rw [hag a hb,r6,r2]; exact hQ.qty
    · rw [hag a hb,r6,r3]; exact hQ.cnt
  · obtain ⟨b,h1,h2⟩:=hq.cover o' ho'
    refine ⟨b,?_,?_⟩
    · rw [hhs]; rw [ht] at h1; simp only [List.mem_append,List.mem_cons] at h1 ⊢; rcases h1 with h | h <;> simp [h]
    · rw [hag b h1,zcs]; exact h2
theorem add_ready {s:Bool} {S S3:TS} {t:Tr} {seq:List Od} {o:Od} {h:Nat} (hi:TI s S t) (hq:QI S t o.side seq)
    (hc:(h ∈ t.hs∧((S.lay o).nd h).ticks = o.ticks∧S3 = S.lay o) ∨ (∃ c u,Way s (S.lay o) t o.ticks c u∧(S.lay o).rd (zR c) = 0∧h = (S.lay o).lc + 1∧S3 = (S.lay o).grow (zR c) o.side o.ticks)) :
    (S3.nd h).yo < 1 + seq.length∧(S3.nd h).qty = sumQ (atK seq o.ticks)∧(S3.nd h).count = (atK seq o.ticks).length∧S3.lc ≤ S.lc + 1∧h ≤ S.lc + 1 ∧
      ∃ t',TI s (S3.link h (1 + seq.length) o.left) t'∧QI (S3.link h (1 + seq.length) o.left) t' o.side (seq ++ [o]):=by
  rcases hc with ⟨hh,hk,rfl⟩ | ⟨c,u,hw,h0,rfl,rfl⟩
  · have hQ:=hq.q h hh
    have hk':(S.nd h).ticks = o.ticks:=hk
    have hm:=List.mem_of_getLast? hQ.last
    have hr:=hi.range h hh
    refine ⟨(zbb _ _ _ _ hm).2.1,by rw [← hk']; exact hQ.qty,by rw [← hk']; exact hQ.cnt,Nat.le_succ _,by omega,t,?_⟩
    exact add_found hi hq hh hk
  · obtain ⟨h1,h2,h3⟩:=add_new hi hq hw h0
    obtain ⟨hg,ht,hno⟩:=ti_grow (sd:=o.side) (ti_lay o hi) hw h0
    have hnew:S.lc + 1 ∉ cl c ++ cr c:=by
      rw [← ht]; intro hm; have:=(hi.range _ hm).2; omega
    have hnd:((S.lay o).grow (zR c) o.side o.ticks).nd (S.lc + 1) = { zNd with side:=o.side,ticks:=o.ticks }:=by
      show upd _ _ _ _ = _
      have h1:((S.lay o).wr (S.lc + 1) (zR c)).nd (S.lc + 1) = zNd:=by
        rw [wr_nd_out (S.lay o) _ c _ hnew]; exact hi.fresh _ (by omega)
      have h2:(S.lay o).lc + 1 = S.lc + 1:=rfl
      rw [h2,zp,h1]
      rfl
    have hlc:(S.lay o).lc + 1 = S.lc + 1:=rfl
    have hak:atK seq o.ticks = []:=by unfold atK; rw [List.filter_eq_nil_iff]; intro b hb; simpa using h3 b hb
    rw [hlc,hnd,hak]
    exact ⟨by show 0 < _; omega,rfl,rfl,Nat.le_refl _,Nat.le_refl _,_,h1,h2⟩
def ahd (s:Bool) (a b:Od):Prop:=bt s a.ticks b.ticks ∨ (a.ticks = b.ticks∧a.id < b.id)
theorem ahd_irr (s:Bool) (a:Od):¬ ahd s a a:=by
 rintro (h | h)
 ·exact bt_irr _ _ h
 ·omega
theorem ahd_trans {s:Bool} {a b c:Od} (h1:ahd s a b) (h2:ahd s b c):ahd s a c:=by
 rcases h1 with h1 | ⟨e1,h1⟩ <;> rcases h2 with h2 | ⟨e2,h2⟩
 ·exact .inl (bt_trans h1 h2)
 ·exact .inl (e2 ▸ h1)
 ·exact .inl (e1 ▸ h2)
 ·exact .inr ⟨e1.trans e2,by omega⟩
theorem ahd_asymm {s:Bool} {a b:Od} (h1:ahd s a b):¬ ahd s b a:=fun h2=>ahd_irr s a (ahd_trans h1 h2)
theorem ahd_total {s:Bool} {a b:Od} (h:a.id ≠ b.id):ahd s a b ∨ ahd s b a:=by
 rcases bt_total s a.ticks b.ticks with h1 | h1 | h1
 ·exact .inl (.inl h1)
 ·rcases Int.lt_or_gt_of_ne h with h2 | h2
  ·exact .inl (.inr ⟨h1,h2⟩)
  ·exact .inr (.inr ⟨h1.symm,h2⟩)
 ·exact .inr (.inl h1)
def zbc (l:List Od):Prop:=l.Pairwise (fun a b=>a.id < b.id)
def zz (l:List Od) (sd:Int):List Od:=l.filter (fun o=>decide (o.side = sd))
theorem ofSide_snoc (l:List Od) (k:Nat) (c:Od) (h:l[k]? = some c):zz (l.take (k + 1)) c.side = zz (l.take k) c.side ++ [c]:=by
 obtain ⟨hk,rfl⟩:=List.getElem?_eq_some_iff.1 h
 unfold zz
 rw [List.take_succ_eq_append_getElem hk,List.filter_append]; simp
theorem ofSide_skip (l:List Od) (k:Nat) (c:Od) {sd:Int} (h:l[k]? = some c) (hs:¬ c.side = sd):zz (l.take (k + 1)) sd = zz (l.take k) sd:=by
 obtain ⟨hk,rfl⟩:=List.getElem?_eq_some_iff.1 h
 unfold zz
 rw [List.take_succ_eq_append_getElem hk,List.filter_append]; simp [hs]
theorem perm_split (p:Od→Bool):∀ l:List Od,List.Perm (l.filter p ++ l.filter (fun o=>!p o)) l
 | []=>by simp
 | a :: l=>by
  have ih:=perm_split p l
  by_cases h:p a = true
  ·simp only [List.filter_cons,h,if_true,Bool.not_true,Bool.false_eq_true,if_false,List.cons_append]
   exact ih.cons a
  ·simp only [Bool.not_eq_true] at h
   simp only [List.filter_cons,h,Bool.false_eq_true,if_false,Bool.not_false,if_true]
   exact List.perm_middle.trans (ih.cons a)
theorem flat_perm:∀ (T:List Int) (seq:List Od),T.Nodup→(∀ o ∈ seq,o.ticks ∈ T)→List.Perm (T.flatMap (atK seq)) seq
 | [],seq,_,h=>by
  cases seq with
  | nil=>simp
  | cons a r=>exact absurd (h a (by simp)) (by simp)
 | k :: T,seq,hd,h=>by
  have hd':=List.nodup_cons.1 hd
  have e:T.flatMap (atK seq) = T.flatMap (atK (seq.filter (fun o=>!decide (o.ticks = k)))):=by
   rw [List.flatMap_def,List.flatMap_def]
   congr 1
   refine List.map_congr_left fun k' hk'=>?_
   unfold atK
   rw [List.filter_filter]
   refine List.filter_congr fun o _=>?_
   by_cases h1:o.ticks = k'
   ·have:¬ o.ticks = k:=fun e=>hd'.1 (by rw [← e,h1]; exact hk')
    simp [h1]; rw [← h1]; exact this
   ·simp [h1]
  rw [List.flatMap_cons,e]
  refine (List.Perm.append_left _ (flat_perm T _ hd'.2 (fun o ho=>?_))).trans (perm_split _ seq)
  simp at ho
  rcases List.mem_cons.1 (h o ho.1) with h1 | h1
  ·exact absurd h1 ho.2
  ·exact h1
theorem flat_sorted {s:Bool}:∀ {T:List Int} {seq:List Od},T.Pairwise (bt s)→zbc seq→(T.flatMap (atK seq)).Pairwise (ahd s)
 | [],_,_,_=>by simp
 | k :: T,seq,hT,hr=>by
  obtain ⟨p1,p2⟩:=List.pairwise_cons.1 hT
  rw [List.flatMap_cons,List.pairwise_append]
  refine ⟨?_,flat_sorted p2 hr,fun a ha b hb=>?_⟩
  ·have h1:(atK seq k).Pairwise (fun a b=>a.id < b.id):=List.Pairwise.sublist List.filter_sublist hr
   refine h1.imp_of_mem fun {a b} ha hb hab=>.inr ⟨?_,hab⟩
   simp [atK] at ha hb
   rw [ha.2,hb.2]
  ·simp only [List.mem_flatMap] at hb
   obtain ⟨k',h1,h2⟩:=hb
   simp [atK] at ha h2
   exact .inl (by rw [ha.2,h2.2]; exact p1 k' h1)
theorem bt_nodup {s:Bool} {T:List Int} (h:T.Pairwise (bt s)):T.Nodup:=by
 unfold List.Nodup
 refine h.imp fun {a b} hab=>?_
 rintro rfl
 exact bt_irr s a hab
structure IsT (s:Bool) (seq:List Od) (T:List Int):Prop where
 sorted:T.Pairwise (bt s)
 mem:∀ k,k ∈ T ↔ ∃ o ∈ seq,o.ticks = k
theorem isT_of {s:Bool} {S:TS} {t:Tr} {sd:Int} {seq:List Od} (hi:TI s S t) (hq:QI S t sd seq):IsT s seq (t.hs.map fun h=>(S.nd h).ticks):=by
 refine ⟨?_,fun k=>⟨fun hk=>?_,?_⟩⟩
 ·rw [List.pairwise_map]; exact hi.sorted
 ·obtain ⟨h,h1,rfl⟩:=List.mem_map.1 hk
  have:=(hq.q h h1).ne
  obtain ⟨a,ha⟩:=List.exists_mem_of_ne_nil _ this
  obtain ⟨_,_,o,h3,h4⟩:=zbb _ _ _ _ ha
  exact ⟨o,List.mem_of_getElem? h3,h4⟩
 ·rintro ⟨o,ho,rfl⟩
  obtain ⟨h,h1,h2⟩:=hq.cover o ho
  exact List.mem_map.2 ⟨h,h1,h2⟩
def nlevR:List Od→Nat
 | []=>0
 | x :: r=>nlevR r + if ∃ y ∈ r,y.side = x.side∧y.ticks = x.ticks then 0 else 1
theorem nlevR_eq:∀ (l:List Od) (A B:List Int),A.Nodup→B.Nodup→(∀ o ∈ l,o.side = 1 ∨ o.side = 2)→(∀ k,k ∈ A ↔ ∃ o ∈ l,o.side = 1∧o.ticks = k)→(∀ k,k ∈ B ↔ ∃ o ∈ l,o.side = 2∧o.ticks = k)→nlevR l = A.length + B.length
 | [],A,B,_,_,_,hA,hB=>by
  have a0:A = []:=List.eq_nil_iff_forall_not_mem.2 fun k hk=>by obtain ⟨o,h,_⟩:=(hA k).1 hk; simp at h
  have b0:B = []:=List.eq_nil_iff_forall_not_mem.2 fun k hk=>by obtain ⟨o,h,_⟩:=(hB k).1 hk; simp at h
  rw [a0,b0]; rfl
 | x :: l,A,B,dA,dB,hs,hA,hB=>by
  rw [nlevR]
  have hs':∀ o ∈ l,o.side = 1 ∨ o.side = 2:=fun o ho=>hs o (by simp [ho])
  by_cases he:∃ y ∈ l,y.side = x.side∧y.ticks = x.ticks
  ·rw [if_pos he]
   obtain ⟨y,hy,e1,e2⟩:=he
   refine nlevR_eq l A B dA dB hs' (fun k=>(hA k).trans ⟨?_,?_⟩) (fun k=>(hB k).trans ⟨?_,?_⟩)
   ·rintro ⟨o,ho,h1,h2⟩
    rcases List.mem_cons.1 ho with rfl | ho
    ·exact ⟨y,hy,e1.trans h1,e2.trans h2⟩
    ·exact ⟨o,ho,h1,h2⟩
   ·rintro ⟨o,ho,h⟩; exact ⟨o,by simp [ho],h⟩
   ·rintro ⟨o,ho,h1,h2⟩
    rcases List.mem_cons.1 ho with rfl | ho
    ·exact ⟨y,hy,e1.trans h1,e2.trans h2⟩
    ·exact ⟨o,ho,h1,h2⟩
   ·rintro ⟨o,ho,h⟩; exact ⟨o,by simp [ho],h⟩
  ·rw [if_neg he]
   have hno:∀ y ∈ l,y.side = x.side→y.ticks ≠ x.ticks:=fun y hy h1 h2=>he ⟨y,hy,h1,h2⟩
   rcases hs x (by simp) with hx | hx
   ·have hxA:x.ticks ∈ A:=(hA _).2 ⟨x,by simp,hx,rfl⟩
    have:=nlevR_eq l (A.erase x.ticks) B (dA.erase _) dB hs' (fun k=>?_) (fun k=>(hB k).trans ⟨?_,?_⟩)
    ·rw [List.length_erase_of_mem hxA] at this
     have hp:0 < A.length:=List.length_pos_of_mem hxA
     omega
    ·rw [List.Nodup.mem_erase_iff dA,hA]
     constructor
     ·rintro ⟨hk,o,ho,h1,h2⟩
      rcases List.mem_cons.1 ho with rfl | ho
      ·exact absurd h2.symm hk
      ·exact ⟨o,ho,h1,h2⟩
     ·rintro ⟨o,ho,h1,h2⟩
      exact ⟨fun e=>hno o ho (h1.trans hx.symm) (h2.trans e),o,by simp [ho],h1,h2⟩
    ·rintro ⟨o,ho,h1,h2⟩
     rcases List.mem_cons.1 ho with rfl | ho
     ·omega
     ·exact ⟨o,ho,h1,h2⟩
    ·rintro ⟨o,ho,h⟩; exact ⟨o,by simp [ho],h⟩
   ·have hxB:x.ticks ∈ B:=(hB _).2 ⟨x,by simp,hx,rfl⟩
    have:=nlevR_eq l A (B.erase x.ticks) dA (dB.erase _) hs' (fun k=>(hA k).trans ⟨?_,?_⟩) (fun k=>?_)
    ·rw [List.length_erase_of_mem hxB] at this
     have hp:0 < B.length:=List.length_pos_of_mem hxB
     omega
    ·rintro ⟨o,ho,h1,h2⟩
     rcases List.mem_cons.1 ho with rfl | ho
     ·omega
     ·exact ⟨o,ho,h1,h2⟩
    ·rintro ⟨o,ho,h⟩; exact ⟨o,by simp [ho],h⟩
    ·rw [List.Nodup.mem_erase_iff dB,hB]
     constructor
     ·rintro ⟨hk,o,ho,h1,h2⟩
      rcases List.mem_cons.1 ho with rfl | ho
      ·exact absurd h2.symm hk
      ·exact ⟨o,ho,h1,h2⟩
     ·rintro ⟨o,ho,h1,h2⟩
      exact ⟨fun e=>hno o ho (h1.trans hx.symm) (h2.trans e),o,by simp [ho],h1,h2⟩
def nlev (l:List Od):Nat:=nlevR l.reverse
theorem nlev_snoc (l:List Od) (x:Od):nlev (l ++ [x]) = nlev l + if ∃ y ∈ l,y.side = x.side∧y.ticks = x.ticks then 0 else 1:=by
 unfold nlev; rw [List.reverse_append]; simp [nlevR]
theorem nlev_eq {l:List Od} {A B:List Int} (hs:∀ o ∈ l,o.side = 1 ∨ o.side = 2) (hA:IsT true (zz l 1) A) (hB:IsT false (zz l 2) B):nlev l = A.length + B.length:=by
 refine nlevR_eq _ A B (bt_nodup hA.sorted) (bt_nodup hB.sorted) (fun o ho=>hs o (by simpa using ho)) (fun k=>(hA.mem k).trans ?_) (fun k=>(hB.mem k).trans ?_)
 ·simp [zz,and_assoc]
 ·simp [zz,and_assoc]
def IsFront (s:Bool) (l:List Od) (sd:Int) (i:Nat) (o:Od):Prop:=l[i]? = some o∧o.side = sd∧∀ j o',l[j]? = some o'→o'.side = sd→j ≠ i→ahd s o o'
theorem front_unique {s:Bool} {l:List Od} {sd:Int} {i j:Nat} {o o':Od} (h:IsFront s l sd i o) (h':IsFront s l sd j o'):i = j∧o = o':=by
 obtain ⟨a1,a2,a3⟩:=h
 obtain ⟨b1,b2,b3⟩:=h'
 have hij:i = j:=by
  rcases Nat.decEq i j with hne | rfl
  ·exact absurd (a3 j o' b1 b2 (fun e=>hne e.symm)) (ahd_asymm (b3 i o a1 a2 hne))
  ·rfl
 subst hij
 rw [a1] at b1
 exact ⟨rfl,Option.some.inj b1⟩
theorem queue_front {s:Bool} {l:List Od} {sd:Int} {T:List Int} (hr:zbc l) (hT:IsT s (zz l sd) T) {o:Od} (ho:(T.flatMap (atK (zz l sd))).head? = some o) :
  ∃ i,IsFront s l sd i o:=by
 have hrs:zbc (zz l sd):=List.Pairwise.sublist List.filter_sublist hr
 have hp:=flat_perm T (zz l sd) (bt_nodup hT.sorted) (fun o ho=>(hT.mem _).2 ⟨o,ho,rfl⟩)
 have hso:=flat_sorted hT.sorted hrs
 generalize T.flatMap (atK (zz l sd)) = Q at *
 cases Q with
 | nil=>simp at ho
 | cons a r =>
  simp at ho; subst ho
  have hm:a ∈ zz l sd:=hp.mem_iff.1 (by simp)
  simp [zz] at hm
  obtain ⟨i,hi⟩:=List.mem_iff_getElem?.1 hm.1
  refine ⟨i,hi,hm.2,fun j o' hj hs hne=>?_⟩
  have hm':o' ∈ a :: r:=hp.mem_iff.2 (by simp [zz]; exact ⟨List.mem_of_getElem? hj,hs⟩)
  rcases List.mem_cons.1 hm' with rfl | hm'
  ·exfalso
   obtain ⟨h1,e1⟩:=List.getElem?_eq_some_iff.1 hi
   obtain ⟨h2,e2⟩:=List.getElem?_eq_some_iff.1 hj
   have hp2:=List.pairwise_iff_getElem.1 hr
   rcases Nat.lt_or_gt_of_ne hne with h | h
   ·have:=hp2 j i h2 h1 h; rw [e1,e2] at this; omega
   ·have:=hp2 i j h1 h2 h; rw [e1,e2] at this; omega
  ·exact (List.pairwise_cons.1 hso).1 o' hm'
theorem queue_none {s:Bool} {l:List Od} {sd:Int} {T:List Int} (hT:IsT s (zz l sd) T) (ho:(T.flatMap (atK (zz l sd))).head? = none):∀ o ∈ l,o.side ≠ sd:=by
 have hp:=flat_perm T (zz l sd) (bt_nodup hT.sorted) (fun o ho=>(hT.mem _).2 ⟨o,ho,rfl⟩)
 rw [List.head?_eq_none_iff] at ho
 rw [ho] at hp
 have:=List.nil_perm.1 hp
 intro o h1 h2
 have hm:o ∈ zz l sd:=by simp [zz]; exact ⟨h1,h2⟩
 rw [this] at hm; simp at hm
end Go.Proofs.YtopjoogdpjaocaaGreat
