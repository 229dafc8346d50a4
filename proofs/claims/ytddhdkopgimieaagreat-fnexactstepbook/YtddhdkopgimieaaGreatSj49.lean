/-
  Held against each other: a book and a group as StepBook answers them; what stands of them while memory grows and rows are marked. No function walked.
-/
import Derived.Test.YtddhdkopgimieaaGreatSj47
import Derived.Test.YtddhdkopgimieaaGreatSj48
namespace Go.Proofs.YtddhdkopgimieaaGreat
open Go.RowKit
set_option linter.unusedVariables false

theorem look_only {d i:Nat}:∀ {ks:List (Nat × Nat)} {j:Nat},ks.lookup j = some d→ks.all (fun p=>p.2 != d || p.1 == i) = true→j = i
 | [],_,h,_=>by cases h
 | (a,b) :: r,j,h,hall=>by
  rw [List.lookup_cons] at h
  simp only [List.all_cons,Bool.and_eq_true] at hall
  by_cases e:j = a
  ·subst e
   simp at h
   subst h
   have:=hall.1
   simp at this
   exact this
  ·have:(j == a) = false:=by rw [beq_eq_false_iff_ne]; exact e
   rw [this] at h
   exact look_only h hall.2
theorem hit_len {l:List Od} {k:Nat} {o:Od} {q:Int}:(zau l k o q).length ≤ l.length:=by
 rw [zau]
 split
 ·simp only [List.length_append,List.length_take,List.length_drop]; omega
 ·simp
theorem stL_len {next:Int} {l:List Od} {c:Cm} (hg:GoodL l):(stL next l c).length ≤ 100:=by
 have hl:=hg.len
 rw [stL]
 split
 ·next hr =>
  split
  ·next hk =>
   have hq:=zbQ hr hk
   have h1:=(zbA (c:=c) (id:=next) 21 l c.q [] hg (by omega) hq.2).1.len
   rw [accL]
   split
   ·simp; omega
   ·omega
  ·split
   ·split
    ·have:=@hit_len l (plc l c.i).toNat; rename_i o _; have:=@hit_len l (plc l c.i).toNat o o.left; omega
    ·omega
   ·split
    ·split
     ·simp; omega
     ·omega
    ·exact Nat.le_trans (List.length_filter_le _ _) (by omega)
 ·omega
theorem stE_len {next:Int} {l:List Od} {c:Cm} (hg:GoodL l):(stE next l c).length ≤ 100:=by
 have hl:=hg.len
 rw [stE]
 split
 ·split
  ·have h1:=matL_few (c:=c) (id:=next) 21 l c.q []
   rw [accE]
   simp only [List.length_append,List.length_cons,List.length_nil] at h1 ⊢
   split <;> simp <;> omega
  ·split
   ·split <;> simp
   ·split
    ·simp
    ·have h1:(l.filter dyB).length ≤ 20:=Nat.le_trans (List.length_filter_le _ _) hl
     simp only [List.length_cons,List.length_map]; omega
 ·simp
theorem sp_len {next:Int} {l:List Od} {c:Cm}:(spL next l c).length ≤ 100∧(spE next l c).length ≤ 100:=by
 rw [spL,spE]
 split
 ·next hok=>exact ⟨stL_len (zbg hok).1,stE_len (zbg hok).1⟩
 ·exact ⟨by simp,by simp⟩
structure BoxS (V:World) (b:Nat) (vs:List Value):Prop where
 r:V.rangeAt b 0 vs
 lt:b < V.heap.size
 k:∃ cur,V.heap[b]? = some (.cells cur 32 (0,0))
theorem zt {V V':World} {b:Nat} {vs:List Value} (h:BoxS V b vs) (hb:Below V.heap.size V V'):BoxS V' b vs :=
 ⟨zb h.r hb h.lt,Nat.lt_of_lt_of_le h.lt hb.size,by obtain ⟨cur,hc⟩:=h.k; exact ⟨cur,(hb.block b h.lt).trans hc⟩⟩
theorem zbu {V V':World} {b:Nat} {vs:List Value} {G:Option Nat} (h:BoxS V b vs) (hg:V.grownBy V' G) (hn:some b ≠ G):BoxS V' b vs :=
 ⟨fun j u hj=>(World.cell?_of_block (a:=⟨b,0 + j,none⟩) (hg.block b h.lt hn)).trans (h.r j u hj),Nat.lt_of_lt_of_le h.lt hg.size,by obtain ⟨cur,hc⟩:=h.k; exact ⟨cur,(hg.block b h.lt hn).trans hc⟩⟩
theorem boxS_made (V:World) (vs:List Value):BoxS (V.alloc (Obj.cells vs.toArray 32)) V.heap.size vs :=
 ⟨zh V vs _,by rw [ze]; omega,⟨_,heap_alloc_new V _⟩⟩
def DL (vs:List Value) (ks:List (Nat × Nat)) (S:Nat) (n N rc:Int) (l L:List Od) (E:List Ev) (p:Prop) (W:World) (j:Nat) (v:Value):Prop :=
 match ks.lookup j with
 | none=>∀ u,vs[j]? = some u→v = u
 | some 1=>¬ p→∃ ad cp,v = .agg #[.int .i64 n,.slice (some ad) l.length cp]∧RdR Od.vs 6 W (.slice (some ad) l.length cp) l
 | some 2=>∃ aq cq ag cg,v = .tuple #[.agg #[.int .i64 N,.slice aq L.length cq],.slice ag E.length cg,.int .i64 rc]∧ORow W S (.slice aq L.length cq) L∧ERow W S (.slice ag E.length cg) E
 | some 3=>∃ aq cq,v = .agg #[.int .i64 N,.slice aq L.length cq]∧ORow W S (.slice aq L.length cq) L
 | some 4=>∃ ag cg,v = .slice ag E.length cg∧ERow W S (.slice ag E.length cg) E
 | some 5=>∃ b,v = .pointer (some ⟨b,0,none⟩)∧S ≤ b∧b < W.heap.size∧W.there b 0 2∧(∃ cur,W.heap[b]? = some (.cells cur 32 (0,0)))∧(p→∃ aq cq,W.rangeAt b 0 [.int .i64 N,.slice aq L.length cq]∧ORow W S (.slice aq L.length cq) L)
 | some _=>True
section
variable {vs:List Value} {ks:List (Nat × Nat)} {S:Nat} {n N rc:Int} {l L:List Od} {E:List Ev} {p:Prop} {W W':World} {j d:Nat} {v u:Value}
theorem zaP (h:DL vs ks S n N rc l L E p W j v) (hk:ks.lookup j = none) (hu:vs[j]? = some u):v = u:=by
 rw [DL,hk] at h; exact h u hu
theorem zaS (hk:ks.lookup j = none) (hu:vs[j]? = some v):DL vs ks S n N rc l L E p W j v:=by
 rw [DL,hk]; intro u h; rw [hu] at h; cases h; rfl
theorem dl_1 (h:DL vs ks S n N rc l L E p W j v) (hk:ks.lookup j = some 1) (hp:¬ p):∃ ad cp,v = .agg #[.int .i64 n,.slice (some ad) l.length cp]∧RdR Od.vs 6 W (.slice (some ad) l.length cp) l:=by
 rw [DL,hk] at h; exact h hp
theorem dl_mk1 (hk:ks.lookup j = some 1) (h:∃ ad cp,v = .agg #[.int .i64 n,.slice (some ad) l.length cp]∧RdR Od.vs 6 W (.slice (some ad) l.length cp) l):DL vs ks S n N rc l L E p W j v:=by
 rw [DL,hk]; exact fun _=>h
theorem dl_2 (h:DL vs ks S n N rc l L E p W j v) (hk:ks.lookup j = some 2):∃ aq cq ag cg,v = .tuple #[.agg #[.int .i64 N,.slice aq L.length cq],.slice ag E.length cg,.int .i64 rc]∧ORow W S (.slice aq L.length cq) L∧ERow W S (.slice ag E.length cg) E:=by
 rw [DL,hk] at h; exact h
theorem dl_mk2 (hk:ks.lookup j = some 2) (h:∃ aq cq ag cg,v = .tuple #[.agg #[.int .i64 N,.slice aq L.length cq],.slice ag E.length cg,.int .i64 rc]∧ORow W S (.slice aq L.length cq) L∧ERow W S (.slice ag E.length cg) E):DL vs ks S n N rc l L E p W j v:=by
 rw [DL,hk]; exact h
theorem dl_3 (h:DL vs ks S n N rc l L E p W j v) (hk:ks.lookup j = some 3):∃ aq cq,v = .agg #[.int .i64 N,.slice aq L.length cq]∧ORow W S (.slice aq L.length cq) L:=by
 rw [DL,hk] at h; exact h
theorem dl_mk3 (hk:ks.lookup j = some 3) (h:∃ aq cq,v = .agg #[.int .i64 N,.slice aq L.length cq]∧ORow W S (.slice aq L.length cq) L):DL vs ks S n N rc l L E p W j v:=by
 rw [DL,hk]; exact h
theorem dl_4 (h:DL vs ks S n N rc l L E p W j v) (hk:ks.lookup j = some 4):∃ ag cg,v = .slice ag E.length cg∧ERow W S (.slice ag E.length cg) E:=by
 rw [DL,hk] at h; exact h
theorem dl_mk4 (hk:ks.lookup j = some 4) (h:∃ ag cg,v = .slice ag E.length cg∧ERow W S (.slice ag E.length cg) E):DL vs ks S n N rc l L E p W j v:=by
 rw [DL,hk]; exact h
theorem dl_5 (h:DL vs ks S n N rc l L E p W j v) (hk:ks.lookup j = some 5):∃ b,v = .pointer (some ⟨b,0,none⟩)∧S ≤ b∧b < W.heap.size∧W.there b 0 2∧(∃ cur,W.heap[b]? = some (.cells cur 32 (0,0)))∧(p→∃ aq cq,W.rangeAt b 0 [.int .i64 N,.slice aq L.length cq]∧ORow W S (.slice aq L.length cq) L):=by
 rw [DL,hk] at h; exact h
theorem dl_mk5 (hk:ks.lookup j = some 5) (hp:¬ p) (hS:S ≤ W.heap.size):DL vs ks S n N rc l L E p (W.alloc (Obj.cells #[.int .i64 0,.slice none 0 0] 32)) j (.pointer (some ⟨W.heap.size,0,none⟩)):=by
 rw [DL,hk]; exact ⟨W.heap.size,rfl,hS,by rw [ze]; omega,zI W [.int .i64 0,.slice none 0 0] _,⟨_,heap_alloc_new W _⟩,fun h=>absurd h hp⟩
theorem dl_mk9 (hk:ks.lookup j = some 9):DL vs ks S n N rc l L E p W j v:=by rw [DL,hk]; trivial
theorem zba:∀ p W W' j v,Below W.heap.size W W'→DL vs ks S n N rc l L E p W j v→DL vs ks S n N rc l L E p W' j v:=by
 intro p W W' j v hb h
 unfold DL at h ⊢
 split
 ·next hk=>rw [hk] at h; exact h
 ·next hk=>rw [hk] at h; intro hp; obtain ⟨ad,cp,h1,h2⟩:=h hp; exact ⟨ad,cp,h1,zj h2 hb (Nat.le_refl _)⟩
 ·next hk=>rw [hk] at h; obtain ⟨aq,cq,ag,cg,h1,h2,h3⟩:=h; exact ⟨aq,cq,ag,cg,h1,zg h2 hb,zn h3 hb⟩
 ·next hk=>rw [hk] at h; obtain ⟨aq,cq,h1,h2⟩:=h; exact ⟨aq,cq,h1,zg h2 hb⟩
 ·next hk=>rw [hk] at h; obtain ⟨ag,cg,h1,h2⟩:=h; exact ⟨ag,cg,h1,zn h2 hb⟩
 ·next hk=>rw [hk] at h; obtain ⟨b,h1,h2,h3,h4,⟨cur,h5⟩,h6⟩:=h; exact ⟨b,h1,h2,Nat.lt_of_lt_of_le h3 hb.size,zf h4 hb h3,⟨cur,(hb.block b h3).trans h5⟩,fun hp=>by obtain ⟨aq,cq,h7,h8⟩:=h6 hp; exact ⟨aq,cq,zb h7 hb h3,zg h8 hb⟩⟩
 ·trivial
theorem dl_store {b:Nat} {aq:Option Addr} {cq:Nat} (hS:S ≤ b) (hth:W.there b 0 2) (hlt:b < W.heap.size) (hbx:∃ cur,W.heap[b]? = some (.cells cur 32 (0,0))) (ho:ORow W S (.slice aq L.length cq) L) (h5:ks.lookup j = some 5→v = .pointer (some ⟨b,0,none⟩)) (h:DL vs ks S n N rc l L E False W j v):DL vs ks S n N rc l L E True (W.setCells b 0 [.int .i64 N,.slice aq L.length cq]) j v:=by
 have hO:∀ {v L},ORow W S v L→ORow (W.setCells b 0 [.int .i64 N,.slice aq L.length cq]) S v L:=fun h=>zaV (zm h hbx (by decide)) _ _ _ h
 have hO':∀ {v:Value} {L':List Od},ORow W S v L'→ORow (W.setCells b 0 [.int .i64 N,.slice aq L.length cq]) S v L':=fun h=>zaV (zm h hbx (by decide)) _ _ _ h
 have hE:∀ {v:Value} {E':List Ev},ERow W S v E'→ERow (W.setCells b 0 [.int .i64 N,.slice aq L.length cq]) S v E':=fun h=>zaV (zm h hbx (by decide)) _ _ _ h
 unfold DL at h ⊢
 split
 ·next hk=>rw [hk] at h; exact h
 ·next hk=>intro hp; exact absurd trivial hp
 ·next hk=>rw [hk] at h; obtain ⟨aq,cq,ag,cg,h1,h2,h3⟩:=h; exact ⟨aq,cq,ag,cg,h1,hO' h2,hE h3⟩
 ·next hk=>rw [hk] at h; obtain ⟨aq,cq,h1,h2⟩:=h; exact ⟨aq,cq,h1,hO' h2⟩
 ·next hk=>rw [hk] at h; obtain ⟨ag,cg,h1,h2⟩:=h; exact ⟨ag,cg,h1,hE h2⟩
 ·next hk =>
  refine ⟨b,h5 hk,hS,by rw [zB]; exact hlt,World.there_setCells hth _ _ _,?_,fun _=>⟨aq,cq,World.rangeAt_setCells_same W b 0 _ (fun j hj=>hth j hj),hO' ho⟩⟩
  obtain ⟨cur,hc⟩:=hbx
  exact kind_setC W b _ 0 hc
 ·trivial
end
theorem rg_write2 {base W W':World} {k:Nat} {D:Prop→World→Nat→Value→Prop} {x:List Bool} {f:Nat→Value} (hb:Below base.heap.size base W') (h:∀ j,x[j]? = some true→D (x[k]? = some true) W j (f j)) (hk:x[k]? = some false) (hm:∀ j,j ≠ k→x[j]? = some true→D False W j (f j)→D True W' j (f j)) (hv:D True W' k (f k)) :
  Below base.heap.size base W'∧∀ j,(x.set k true)[j]? = some true→D ((x.set k true)[k]? = some true) W' j (f j):=by
 have e:((x.set k true)[k]? = some true) = True:=by
  rw [List.getElem?_set_self (List.getElem?_eq_some_iff.1 hk).1]; simp
 refine ⟨hb,fun j hj=>?_⟩
 rw [e]
 by_cases hji:j = k
 ·subst hji; exact hv
 ·rw [List.getElem?_set_ne (fun e=>hji e.symm)] at hj
  refine hm j hji hj ?_
  have:=h j hj
  rw [hk] at this
  simpa using this
end Go.Proofs.YtddhdkopgimieaaGreat
