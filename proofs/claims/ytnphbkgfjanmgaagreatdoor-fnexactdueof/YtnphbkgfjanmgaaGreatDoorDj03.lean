/-
  Who trades ahead of whom in a list of orders, how many levels it has, and what a tree of them tells, as pure data; no function walked.
-/
import Derived.Test.YtnphbkgfjanmgaaGreatDoorDj02
import Derived.Deep.RegionWith
import Derived.Deep.LoopGhost
import Derived.BigRegion
set_option linter.unusedVariables false
set_option maxHeartbeats 6400000
set_option maxRecDepth 100000
namespace Go.Proofs.YtnphbkgfjanmgaaGreatDoor
open Go.RowKit
def ahd (s:Bool) (a b:Od):Prop:=bt s a.ticks b.ticks ∨ (a.ticks = b.ticks∧a.id < b.id)
theorem ahd_irr (s:Bool) (a:Od):¬ ahd s a a:=by
 rintro (h | h)
 ·exact bt_irr _ _ h
 ·omega
theorem ahd_trans {s:Bool} {a b c:Od} (N:ahd s a b) (Y:ahd s b c):ahd s a c:=by
 rcases N with N | ⟨e1,N⟩ <;> rcases Y with Y | ⟨e2,Y⟩
 ·exact .inl (bt_trans N Y)
 ·exact .inl (e2 ▸ N)
 ·exact .inl (e1 ▸ Y)
 ·exact .inr ⟨e1.trans e2,by omega⟩
theorem ahd_asymm {s:Bool} {a b:Od} (N:ahd s a b):¬ ahd s b a:=fun Y=>ahd_irr s a (ahd_trans N Y)
theorem ahd_total {s:Bool} {a b:Od} (h:a.id ≠ b.id):ahd s a b ∨ ahd s b a:=by
 rcases bt_total s a.ticks b.ticks with N | N | N
 ·exact .inl (.inl N)
 ·rcases Int.lt_or_gt_of_ne h with Y | Y
  ·exact .inl (.inr ⟨N,Y⟩)
  ·exact .inr (.inr ⟨N.symm,Y⟩)
 ·exact .inr (.inl N)
def bu (l:List Od):Prop:=l.Pairwise (fun a b=>a.id < b.id)
def zt (l:List Od) (sd:Int):List Od:=l.filter (fun o=>decide (o.side = sd))
theorem ofSide_snoc (l:List Od) (k:Nat) (c:Od) (h:l[k]? = some c):zt (l.take (k + 1)) c.side = zt (l.take k) c.side ++ [c]:=by
 obtain ⟨hk,rfl⟩:=yH.1 h
 unfold zt
 rw [List.take_succ_eq_append_getElem hk,List.filter_append]; simp
theorem ofSide_skip (l:List Od) (k:Nat) (c:Od) {sd:Int} (h:l[k]? = some c) (hs:¬ c.side = sd):zt (l.take (k + 1)) sd = zt (l.take k) sd:=by
 obtain ⟨hk,rfl⟩:=yH.1 h
 unfold zt
 rw [List.take_succ_eq_append_getElem hk,List.filter_append]; simp [hs]
theorem perm_split (p:Od→Bool):∀ l:List Od,List.Perm (l.filter p ++ l.filter (fun o=>!p o)) l
 | []=>by simp
 | a :: l=>by
  have ih:=perm_split p l
  by_cases h:p a = true
  ·simp only [List.filter_cons,h,if_true,Bool.not_true,Bool.false_eq_true,if_false,List.cons_append]
   exact ih.cons a
  ·simp only [Bool.not_eq_true] at h
   simp only [List.filter_cons,h,Bool.false_eq_true,if_false,Bool.not_false,if_true]
   exact List.perm_middle.trans (ih.cons a)
theorem flat_perm:∀ (T:List Int) (seq:List Od),T.Nodup→(∀ o ∈ seq,o.ticks ∈ T)→List.Perm (T.flatMap (atK seq)) seq
 | [],seq,_,h=>by
  cases seq with
  | nil=>simp
  | cons a r=>exact absurd (h a (by simp)) (by simp)
 | k :: T,seq,hd,h=>by
  have hd':=List.nodup_cons.1 hd
  have e:T.flatMap (atK seq) = T.flatMap (atK (seq.filter (fun o=>!decide (o.ticks = k)))):=by
   rw [List.flatMap_def,List.flatMap_def]
   congr 1
   refine List.map_congr_left fun k' oJ=>?_
   unfold atK
   rw [List.filter_filter]
   refine List.filter_congr fun o _=>?_
   by_cases N:o.ticks = k'
   ·have:¬ o.ticks = k:=fun e=>hd'.1 (by rw [← e,N]; exact oJ)
    simp [N]; rw [← N]; exact this
   ·simp [N]
  rw [List.flatMap_cons,e]
  refine (List.Perm.append_left _ (flat_perm T _ hd'.2 (fun o Z=>?_))).trans (perm_split _ seq)
  simp at Z
  rcases List.mem_cons.1 (h o Z.1) with N | N
  ·exact absurd N Z.2
  ·exact N
theorem flat_sorted {s:Bool}:∀ {T:List Int} {seq:List Od},T.Pairwise (bt s)→bu seq→(T.flatMap (atK seq)).Pairwise (ahd s)
 | [],_,_,_=>by simp
 | k :: T,seq,hT,hr=>by
  obtain ⟨p1,p2⟩:=List.pairwise_cons.1 hT
  rw [List.flatMap_cons,List.pairwise_append]
  refine ⟨?_,flat_sorted p2 hr,fun a ha b E=>?_⟩
  ·have N:(atK seq k).Pairwise (fun a b=>a.id < b.id):=List.Pairwise.sublist List.filter_sublist hr
   refine N.imp_of_mem fun {a b} ha E hab=>.inr ⟨?_,hab⟩
   simp [atK] at ha E
   rw [ha.2,E.2]
  ·simp only [List.mem_flatMap] at E
   obtain ⟨k',N,Y⟩:=E
   simp [atK] at ha Y
   exact .inl (by rw [ha.2,Y.2]; exact p1 k' N)
theorem bt_nodup {s:Bool} {T:List Int} (h:T.Pairwise (bt s)):T.Nodup:=by
 unfold List.Nodup
 refine h.imp fun {a b} hab=>?_
 rintro rfl
 exact bt_irr s a hab
structure IsT (s:Bool) (seq:List Od) (T:List Int):Prop where
 sorted:T.Pairwise (bt s)
 mem:∀ k,k ∈ T ↔ ∃ o ∈ seq,o.ticks = k
theorem isT_of {s:Bool} {S:TS} {t:Tr} {sd:Int} {seq:List Od} (hi:TI s S t) (hq:QI S t sd seq):IsT s seq (t.hs.map fun h=>(S.nd h).ticks):=by
 refine ⟨?_,fun k=>⟨fun hk=>?_,?_⟩⟩
 ·rw [List.pairwise_map]; exact hi.sorted
 ·obtain ⟨h,N,rfl⟩:=List.mem_map.1 hk
  have:=(hq.q h N).ne
  obtain ⟨a,ha⟩:=List.exists_mem_of_ne_nil _ this
  obtain ⟨_,_,o,h3,h4⟩:=bW _ _ _ _ ha
  exact ⟨o,yP h3,h4⟩
 ·rintro ⟨o,Z,rfl⟩
  obtain ⟨h,N,Y⟩:=hq.cover o Z
  exact List.mem_map.2 ⟨h,N,Y⟩
def nlevR:List Od→Nat
 | []=>0
 | x :: r=>nlevR r + if ∃ y ∈ r,y.side = x.side∧y.ticks = x.ticks then 0 else 1
theorem nlevR_eq:∀ (l:List Od) (cs B:List Int),cs.Nodup→B.Nodup→(∀ o ∈ l,o.side = 1 ∨ o.side = 2)→(∀ k,k ∈ cs ↔ ∃ o ∈ l,o.side = 1∧o.ticks = k)→(∀ k,k ∈ B ↔ ∃ o ∈ l,o.side = 2∧o.ticks = k)→nlevR l = cs.length + B.length
 | [],cs,B,_,_,_,hA,hB=>by
  have a0:cs = []:=List.eq_nil_iff_forall_not_mem.2 fun k hk=>by obtain ⟨o,h,_⟩:=(hA k).1 hk; simp at h
  have b0:B = []:=List.eq_nil_iff_forall_not_mem.2 fun k hk=>by obtain ⟨o,h,_⟩:=(hB k).1 hk; simp at h
  rw [a0,b0]; rfl
 | x :: l,cs,B,dA,dB,hs,hA,hB=>by
  rw [nlevR]
  have hs':∀ o ∈ l,o.side = 1 ∨ o.side = 2:=fun o Z=>hs o (by simp [Z])
  by_cases he:∃ y ∈ l,y.side = x.side∧y.ticks = x.ticks
  ·rw [if_pos he]
   obtain ⟨y,hy,e1,e2⟩:=he
   refine nlevR_eq l cs B dA dB hs' (fun k=>(hA k).trans ⟨?_,?_⟩) (fun k=>(hB k).trans ⟨?_,?_⟩)
   ·rintro ⟨o,Z,N,Y⟩
    rcases List.mem_cons.1 Z with rfl | Z
    ·exact ⟨y,hy,e1.trans N,e2.trans Y⟩
    ·exact ⟨o,Z,N,Y⟩
   ·rintro ⟨o,Z,h⟩; exact ⟨o,by simp [Z],h⟩
   ·rintro ⟨o,Z,N,Y⟩
    rcases List.mem_cons.1 Z with rfl | Z
    ·exact ⟨y,hy,e1.trans N,e2.trans Y⟩
    ·exact ⟨o,Z,N,Y⟩
   ·rintro ⟨o,Z,h⟩; exact ⟨o,by simp [Z],h⟩
  ·rw [if_neg he]
   have vL:∀ y ∈ l,y.side = x.side→y.ticks ≠ x.ticks:=fun y hy N Y=>he ⟨y,hy,N,Y⟩
   rcases hs x (by simp) with hx | hx
   ·have hxA:x.ticks ∈ cs:=(hA _).2 ⟨x,by simp,hx,rfl⟩
    have:=nlevR_eq l (cs.erase x.ticks) B (dA.erase _) dB hs' (fun k=>?_) (fun k=>(hB k).trans ⟨?_,?_⟩)
    ·rw [List.length_erase_of_mem hxA] at this
     have hp:0 < cs.length:=List.length_pos_of_mem hxA
     omega
    ·rw [List.Nodup.mem_erase_iff dA,hA]
     constructor
     ·rintro ⟨hk,o,Z,N,Y⟩
      rcases List.mem_cons.1 Z with rfl | Z
      ·exact absurd Y.symm hk
      ·exact ⟨o,Z,N,Y⟩
     ·rintro ⟨o,Z,N,Y⟩
      exact ⟨fun e=>vL o Z (N.trans hx.symm) (Y.trans e),o,by simp [Z],N,Y⟩
    ·rintro ⟨o,Z,N,Y⟩
     rcases List.mem_cons.1 Z with rfl | Z
     ·omega
     ·exact ⟨o,Z,N,Y⟩
    ·rintro ⟨o,Z,h⟩; exact ⟨o,by simp [Z],h⟩
   ·have hxB:x.ticks ∈ B:=(hB _).2 ⟨x,by simp,hx,rfl⟩
    have:=nlevR_eq l cs (B.erase x.ticks) dA (dB.erase _) hs' (fun k=>(hA k).trans ⟨?_,?_⟩) (fun k=>?_)
    ·rw [List.length_erase_of_mem hxB] at this
     have hp:0 < B.length:=List.length_pos_of_mem hxB
     omega
    ·rintro ⟨o,Z,N,Y⟩
     rcases List.mem_cons.1 Z with rfl | Z
     ·omega
     ·exact ⟨o,Z,N,Y⟩
    ·rintro ⟨o,Z,h⟩; exact ⟨o,by simp [Z],h⟩
    ·rw [List.Nodup.mem_erase_iff dB,hB]
     constructor
     ·rintro ⟨hk,o,Z,N,Y⟩
      rcases List.mem_cons.1 Z with rfl | Z
      ·exact absurd Y.symm hk
      ·exact ⟨o,Z,N,Y⟩
     ·rintro ⟨o,Z,N,Y⟩
      exact ⟨fun e=>vL o Z (N.trans hx.symm) (Y.trans e),o,by simp [Z],N,Y⟩
def nlev (l:List Od):Nat:=nlevR l.reverse
theorem nlev_snoc (l:List Od) (x:Od):nlev (l ++ [x]) = nlev l + if ∃ y ∈ l,y.side = x.side∧y.ticks = x.ticks then 0 else 1:=by
 unfold nlev; rw [List.reverse_append]; simp [nlevR]
theorem nlev_eq {l:List Od} {cs B:List Int} (hs:∀ o ∈ l,o.side = 1 ∨ o.side = 2) (hA:IsT true (zt l 1) cs) (hB:IsT false (zt l 2) B):nlev l = cs.length + B.length:=by
 refine nlevR_eq _ cs B (bt_nodup hA.sorted) (bt_nodup hB.sorted) (fun o Z=>hs o (by simpa using Z)) (fun k=>(hA.mem k).trans ?_) (fun k=>(hB.mem k).trans ?_)
 ·simp [zt,and_assoc]
 ·simp [zt,and_assoc]
def dD (s:Bool) (l:List Od) (sd:Int) (i:Nat) (o:Od):Prop:=l[i]? = some o∧o.side = sd∧∀ j o',l[j]? = some o'→o'.side = sd→j ≠ i→ahd s o o'
theorem front_unique {s:Bool} {l:List Od} {sd:Int} {i j:Nat} {o o':Od} (h:dD s l sd i o) (h':dD s l sd j o'):i = j∧o = o':=by
 obtain ⟨a1,a2,a3⟩:=h
 obtain ⟨b1,b2,b3⟩:=h'
 have aG:i = j:=by
  rcases Nat.decEq i j with xD | rfl
  ·exact absurd (a3 j o' b1 b2 (fun e=>xD e.symm)) (ahd_asymm (b3 i o a1 a2 xD))
  ·rfl
 subst aG
 rw [a1] at b1
 exact ⟨rfl,Option.some.inj b1⟩
theorem queue_front {s:Bool} {l:List Od} {sd:Int} {T:List Int} (hr:bu l) (hT:IsT s (zt l sd) T) {o:Od} (Z:(T.flatMap (atK (zt l sd))).head? = some o) :
  ∃ i,dD s l sd i o:=by
 have hrs:bu (zt l sd):=List.Pairwise.sublist List.filter_sublist hr
 have hp:=flat_perm T (zt l sd) (bt_nodup hT.sorted) (fun o Z=>(hT.mem _).2 ⟨o,Z,rfl⟩)
 have pz:=flat_sorted hT.sorted hrs
 generalize T.flatMap (atK (zt l sd)) = ya at *
 cases ya with
 | nil=>simp at Z
 | cons a r =>
  simp at Z; subst Z
  have hm:a ∈ zt l sd:=hp.mem_iff.1 (by simp)
  simp [zt] at hm
  obtain ⟨i,hi⟩:=List.mem_iff_getElem?.1 hm.1
  refine ⟨i,hi,hm.2,fun j o' V hs xD=>?_⟩
  have hm':o' ∈ a :: r:=hp.mem_iff.2 (by simp [zt]; exact ⟨yP V,hs⟩)
  rcases List.mem_cons.1 hm' with rfl | hm'
  ·exfalso
   obtain ⟨N,e1⟩:=yH.1 hi
   obtain ⟨Y,e2⟩:=yH.1 V
   have hp2:=List.pairwise_iff_getElem.1 hr
   rcases Nat.lt_or_gt_of_ne xD with h | h
   ·have:=hp2 j i Y N h; rw [e1,e2] at this; omega
   ·have:=hp2 i j N Y h; rw [e1,e2] at this; omega
  ·exact (List.pairwise_cons.1 pz).1 o' hm'
theorem queue_none {s:Bool} {l:List Od} {sd:Int} {T:List Int} (hT:IsT s (zt l sd) T) (Z:(T.flatMap (atK (zt l sd))).head? = none):∀ o ∈ l,o.side ≠ sd:=by
 have hp:=flat_perm T (zt l sd) (bt_nodup hT.sorted) (fun o Z=>(hT.mem _).2 ⟨o,Z,rfl⟩)
 rw [List.head?_eq_none_iff] at Z
 rw [Z] at hp
 have:=List.nil_perm.1 hp
 intro o N Y
 have hm:o ∈ zt l sd:=by simp [zt]; exact ⟨N,Y⟩
 rw [this] at hm; simp at hm
def Od.vs (o:Od):List Value:=(yx o.id o.side o.ticks o.left o.life o.tag)
theorem Od.len (o:Od):o.vs.length = 6:=rfl
def Od.val (o:Od):Value:=.agg (yx o.id o.side o.ticks o.left o.life o.tag).toArray
def Nd.vs (n:Nd):List Value:=[I n.side,I n.ticks,I n.qty,I n.count,I n.be,I n.wo,I n.el,I n.yo]
def Qo.vs (q:Qo):List Value:=[I q.od.id,I q.od.side,I q.od.ticks,I q.od.left,I q.od.life,yl q.od.tag,I q.yg]
structure TM (T:TypeId) (w:World) (b:Nat) (S:TS):Prop where
  root:w.cell? ⟨b,0,none⟩ = some (.int .i64 S.root)
  lc:w.cell? ⟨b,1,none⟩ = some (.int .i64 S.lc)
  nd:∀ i,i < 21→w.rangeAt b (2 + i * 8) (S.nd i).vs
  oc:w.cell? ⟨b,170,none⟩ = some (.int .i64 S.oc)
  qo:∀ i,i < 21→w.rangeAt b (171 + i * 7) (S.qo i).vs
  fr:∀ o,w.frozen? ⟨b,o,none⟩ = false
  obj:∃ cur,w.heap[b]? = some (.cells cur T (0,0))
theorem obj_set {w:World} {b o:Nat} {v:Value} {T:TypeId} (h:∃ xF,w.heap[b]? = some (.cells xF T (0,0))):∃ xF,(w.setCell (Q b o) v).heap[b]? = some (.cells xF T (0,0)):=by
  obtain ⟨xF,h⟩:=h
  exact ⟨xF.setIfInBounds o v,by simp [World.setCell,Array.getElem?_modify,h]⟩
theorem tm_lt {w:World} {b:Nat} {S:TS} {T:TypeId} (h:TM T w b S):b < w.heap.size:=yL w _ h.root
theorem bD {w w':World} {b:Nat} {S:TS} {T:TypeId} (h:TM T w b S) (E:w'.heap[b]? = w.heap[b]?):TM T w' b S :=
  ⟨(yR (a:=(Q b 0)) E).trans h.root,(yR (a:=(Q b 1)) E).trans h.lc,
   fun i hi j v hv=>(yR (a:=(Q b (2 + i * 8 + j))) E).trans (h.nd i hi j v hv),(yR (a:=(Q b 170)) E).trans h.oc,
   fun i hi j v hv=>(yR (a:=(Q b (171 + i * 7 + j))) E).trans (h.qo i hi j v hv),fun o=>(World.frozen?_of_block (a:=(Q b o)) E).trans (h.fr o),by rw [E]; exact h.obj⟩
theorem cS {w w':World} {b C:Nat} {S:TS} {T:TypeId} (h:TM T w b S) (E:Below C w w') (hC:b < C):TM T w' b S:=bD h (E.block b hC)
theorem dT {w w':World} {b:Nat} {G:Option Nat} {S:TS} {T:TypeId} (h:TM T w b S) (hg:w.grownBy w' G) (xD:some b ≠ G):TM T w' b S:=bD h (hg.block b (tm_lt h) xD)
theorem cC {w:World} {b o n:Nat} {v:Value} {A:List Value} (h:w.rangeAt b o A) (hn:n < o ∨ o + A.length ≤ n):(w.setCell (Q b n) v).rangeAt b o A:=fun j u hu=>by
  have V:=(yH.1 hu).1
  rw [yM _ _ _ _ (bY (by omega))]
  exact h j u hu
theorem set_range_in {w:World} {b o j0:Nat} {v:Value} {A:List Value} (h:w.rangeAt b o A) (hj0:j0 < A.length):(w.setCell (Q b (o + j0)) v).rangeAt b o (A.set j0 v):=fun j u hu=>by
  by_cases V:j = j0
  · subst V
    rw [List.getElem?_set_self hj0] at hu
    obtain rfl:=Option.some.inj hu
    exact yN _ _ _ (h j _ (yI hj0))
  · rw [yX (fun e=>V e.symm)] at hu
    rw [yM _ _ _ _ (bY (by omega))]
    exact h j u hu
theorem bV {w:World} {b o n:Nat} {v u:Value} (h:w.cell? (Q b o) = some u) (hn:o ≠ n):(w.setCell (Q b n) v).cell? (Q b o) = some u:=by
  rw [yM _ _ _ _ (bY (by omega))]; exact h
theorem Nd.len (n:Nd):n.vs.length = 8:=rfl
theorem Qo.len (n:Qo):n.vs.length = 7:=rfl
theorem tm_root {w:World} {b:Nat} {S:TS} {T:TypeId} (h:TM T w b S) (n:Nat):TM T (w.setCell (Q b 0) (I n)) b { S with root:=n } :=
  ⟨yN _ _ _ h.root,bV h.lc (by omega),fun i hi=>cC (h.nd i hi) (by omega),bV h.oc (by omega),fun i hi=>cC (h.qo i hi) (by omega),fun o=>by rw [World.frozen?_setCell]; exact h.fr o,obj_set h.obj⟩
theorem tm_lc {w:World} {b:Nat} {S:TS} {T:TypeId} (h:TM T w b S) (n:Nat):TM T (w.setCell (Q b 1) (I n)) b { S with lc:=n } :=
  ⟨bV h.root (by omega),yN _ _ _ h.lc,fun i hi=>cC (h.nd i hi) (by omega),bV h.oc (by omega),fun i hi=>cC (h.qo i hi) (by omega),fun o=>by rw [World.frozen?_setCell]; exact h.fr o,obj_set h.obj⟩
theorem tm_oc {w:World} {b:Nat} {S:TS} {T:TypeId} (h:TM T w b S) (n:Nat):TM T (w.setCell (Q b 170) (I n)) b { S with oc:=n } :=
  ⟨bV h.root (by omega),bV h.lc (by omega),fun i hi=>cC (h.nd i hi) (by rw [Nd.len]; omega),yN _ _ _ h.oc,fun i hi=>cC (h.qo i hi) (by omega),fun o=>by rw [World.frozen?_setCell]; exact h.fr o,obj_set h.obj⟩
theorem aZ {w:World} {b:Nat} {S:TS} {T:TypeId} (h:TM T w b S) (i0 j0:Nat) (vA:i0 < 21) (hj0:j0 < 8) (v:Value) (n':Nd) (hn:n'.vs = (S.nd i0).vs.set j0 v) (o:Nat) (Z:o = 2 + i0 * 8 + j0) :
    TM T (w.setCell (Q b o) v) b { S with nd:=upd S.nd i0 n' }:=by
  subst Z
  refine ⟨bV h.root (by omega),bV h.lc (by omega),fun i hi=>?_,bV h.oc (by omega),fun i hi=>cC (h.qo i hi) (by omega),fun o=>by rw [World.frozen?_setCell]; exact h.fr o,obj_set h.obj⟩
  by_cases hii:i = i0
  · subst hii
    show World.rangeAt _ _ _ (upd S.nd i n' i).vs
    rw [zr,hn]
    exact set_range_in (h.nd i hi) hj0
  · show World.rangeAt _ _ _ (upd S.nd i0 n' i).vs
    rw [zk _ _ hii]
    exact cC (h.nd i hi) (by rw [Nd.len]; omega)
theorem tm_qo {w:World} {b:Nat} {S:TS} {T:TypeId} (h:TM T w b S) (i0 j0:Nat) (vA:i0 < 21) (hj0:j0 < 7) (v:Value) (n':Qo) (hn:n'.vs = (S.qo i0).vs.set j0 v) (o:Nat) (Z:o = 171 + i0 * 7 + j0) :
    TM T (w.setCell (Q b o) v) b { S with qo:=upd S.qo i0 n' }:=by
  subst Z
  refine ⟨bV h.root (by omega),bV h.lc (by omega),fun i hi=>cC (h.nd i hi) (by rw [Nd.len]; omega),bV h.oc (by omega),fun i hi=>?_,fun o=>by rw [World.frozen?_setCell]; exact h.fr o,obj_set h.obj⟩
  by_cases hii:i = i0
  · subst hii
    show World.rangeAt _ _ _ (upd S.qo i n' i).vs
    rw [zr,hn]
    exact set_range_in (h.qo i hi) hj0
  · show World.rangeAt _ _ _ (upd S.qo i0 n' i).vs
    rw [zk _ _ hii]
    exact cC (h.qo i hi) (by rw [Qo.len]; omega)
theorem zQ {w:World} {b o:Nat} {n:Nd} (h:w.rangeAt b o n.vs) :
    w.cell? (Q b o) = some (I n.side)∧w.cell? (Q b (o + 1)) = some (I n.ticks)∧w.cell? (Q b (o + 2)) = some (I n.qty)∧w.cell? (Q b (o + 3)) = some (I n.count) ∧
    w.cell? (Q b (o + 4)) = some (I n.be)∧w.cell? (Q b (o + 5)) = some (I n.wo)∧w.cell? (Q b (o + 6)) = some (I n.el)∧w.cell? (Q b (o + 7)) = some (I n.yo) :=
  ⟨h 0 _ rfl,h 1 _ rfl,h 2 _ rfl,h 3 _ rfl,h 4 _ rfl,h 5 _ rfl,h 6 _ rfl,h 7 _ rfl⟩
theorem dR {w:World} {b o:Nat} {n:Qo} (h:w.rangeAt b o n.vs) :
    w.cell? (Q b o) = some (I n.od.id)∧w.cell? (Q b (o + 1)) = some (I n.od.side)∧w.cell? (Q b (o + 2)) = some (I n.od.ticks)∧w.cell? (Q b (o + 3)) = some (I n.od.left) ∧
    w.cell? (Q b (o + 4)) = some (I n.od.life)∧w.cell? (Q b (o + 5)) = some (yl n.od.tag)∧w.cell? (Q b (o + 6)) = some (I n.yg) :=
  ⟨h 0 _ rfl,h 1 _ rfl,h 2 _ rfl,h 3 _ rfl,h 4 _ rfl,h 5 _ rfl,h 6 _ rfl⟩
theorem zB {w:World} {b o:Nat} {n:Od} (h:w.rangeAt b o n.vs) :
    w.cell? (Q b o) = some (I n.id)∧w.cell? (Q b (o + 1)) = some (I n.side)∧w.cell? (Q b (o + 2)) = some (I n.ticks)∧w.cell? (Q b (o + 3)) = some (I n.left) ∧
    w.cell? (Q b (o + 4)) = some (I n.life)∧w.cell? (Q b (o + 5)) = some (yl n.tag) :=
  ⟨h 0 _ rfl,h 1 _ rfl,h 2 _ rfl,h 3 _ rfl,h 4 _ rfl,h 5 _ rfl⟩
def Cur.off:Cur→Nat
  | .root=>0
  | .be h=>2 + h * 8 + 4
  | .wo h=>2 + h * 8 + 5
def Cur.ok:Cur→Prop
  | .root=>True
  | .be h=>h < 21
  | .wo h=>h < 21
theorem cur_cell {w:World} {b:Nat} {S:TS} {T:TypeId} (h:TM T w b S) (c:Cur) (hc:c.ok):w.cell? (Q b c.off) = some (I (S.rd c)):=by
  cases c with
  | root=>exact h.root
  | be a=>exact (zQ (h.nd a hc)).2.2.2.2.1
  | wo a=>exact (zQ (h.nd a hc)).2.2.2.2.2.1
theorem tm_cur {w:World} {b:Nat} {S:TS} {T:TypeId} (h:TM T w b S) (c:Cur) (hc:c.ok) (n:Nat):TM T (w.setCell (Q b c.off) (I n)) b (S.wr n c):=by
  cases c with
  | root=>exact tm_root h n
  | be a=>exact aZ h a 4 hc (by omega) (I n) { S.nd a with be:=n } rfl _ rfl
  | wo a=>exact aZ h a 5 hc (by omega) (I n) { S.nd a with wo:=n } rfl _ rfl
theorem cL {α:Type} (f:Nat→α) (i:Nat) (x y:α):upd (upd f i x) i y = upd f i y:=by
  funext j; simp only [upd]; split <;> rfl
theorem zn (w:World) (A:List Value) (t:TypeId):(w.alloc (Obj.cells A.toArray t)).rangeAt w.heap.size 0 A:=fun j u h=>by
  rw [cell_of_row _ w.heap.size (0 + j) A.toArray t (0,0) (heap_alloc_new w _)]
  simpa using h
theorem zj (w:World) (o:Obj):(w.alloc o).heap.size = w.heap.size + 1:=by simp
theorem gr_drew {a w:World} {G:Option Nat} (h:a.grownBy w G):a.grownBy w.drew G:=⟨h.os,h.tape,h.output,h.size,h.block⟩
theorem bx {P:Program} {ops:Array Oper} {C:World→Prop} {ya:Act→Prop} {a:Act} {o:Oper} {rest:List Oper} {v:Value} (N:Region.wanted o (yielded ops a.tmps) = true) (Y:∀ w',C w'→o.quietAt P a C w' v)
    (h3:∀ zb:Act→Prop,(∀ a,wpQuiet P ops C ya rest a→zb a)→zb (a.put o.dst v)):wpQuiet P ops C ya (o :: rest) a :=
  wpQuiet_step fun zb hK=>by rw [if_pos N]; exact ⟨v,Y,h3 zb hK⟩
theorem dG {P:Program} {id:Nat} {ya:Exit→Act→World→Prop} {a:Act} {w W:World} {l:List Oper} (hm:P.follows .mixedOrders = true) (hB:Region.lexB .any l.toArray = true) (hg:W.grownBy w none)
    (h:wpQuiet P l.toArray (fun w'=>W.grownBy w' none) (fun a'=>∀ w',W.grownBy w' none→ya .normal a' w') l a):(Code.region id l.toArray true).wp P ya a w :=
  wp_region_quiet (C:=fun w'=>W.grownBy w' none) hm hB ⟨hg.os,hg.tape,hg.output,hg.size,hg.block⟩ (by simpa using h)
theorem zR {a w:World} {b:Nat} (h:a.grownBy w (some b)) (o:Nat) (v:Value):a.grownBy (w.setCell (Q b o) v) (some b) :=
  ⟨h.os,h.tape,h.output,by rw [World.setCell]; simpa using h.size,fun k hk xD=>(yT w _ _ k (fun e=>xD (by rw [e]))).trans (h.block k hk xD)⟩
theorem grow_eq (S:TS) (cu:Cur) (o:Od) (m:Nat) (hm:m = S.lc + 1) :
    ({ root:=({ S with lc:=m }.wr m cu).root,lc:=({ S with lc:=m }.wr m cu).lc,oc:=({ S with lc:=m }.wr m cu).oc,
       nd:=upd ({ S with lc:=m }.wr m cu).nd m { (({ S with lc:=m }.wr m cu).nd m) with side:=o.side,ticks:=o.ticks,qty:=0,count:=0 },qo:=({ S with lc:=m }.wr m cu).qo }:TS) = S.grow cu o.side o.ticks:=by
  subst hm
  cases cu <;> rfl
def LFI (s:Bool) (b:Nat) (S:TS) (t:Tr) (kk:Int) (W:World) (k:Nat) (p:Value) (wr:World):Prop :=
  ∃ c u,p = J b ((zW c).off)∧u.hs.length ≤ k∧Way s S t kk c u∧W.grownBy wr none
def LFEnd (s:Bool) (T:TypeId) (b:Nat) (S:TS) (t:Tr) (o:Od) (w:World) (h:Nat) (w':World):Prop :=
  ∃ (S':TS),TM T w' b S'∧w.grownBy w' (some b) ∧
    ((h ∈ t.hs∧(S.nd h).ticks = o.ticks∧S' = S) ∨ (∃ c u,Way s S t o.ticks c u∧S.rd (zW c) = 0∧h = S.lc + 1∧S' = S.grow (zW c) o.side o.ticks))
theorem cur_ok {s:Bool} {S:TS} {t:Tr} {k:Int} {c:Ctx} {u:Tr} (hi:TI s S t) (h:Way s S t k c u) (qb:S.lc < 20):(zW c).ok:=by
  have hm:∀ a ∈ F c ++ cr c,a < 21:=fun a ha=>by
    have:=hi.range a (by rw [h.plug,cT]; simp at ha ⊢; rcases ha with h | h <;> simp [h])
    omega
  match c,hm with
  | [],_=>trivial
  | (true,a,r) :: c,hm=>exact hm a (by simp [cr])
  | (false,a,l) :: c,hm=>exact hm a (by simp [F])
theorem tm_put {w:World} {b:Nat} {S:TS} {T:TypeId} (h:TM T w b S) (i:Nat) (hi:i < 21) (o:Od) :
    TM T (((((((w.setCell (Q b (171 + i * 7)) (I o.id)).setCell (Q b (171 + i * 7 + 1)) (I o.side)).setCell (Q b (171 + i * 7 + 2)) (I o.ticks)).setCell (Q b (171 + i * 7 + 3)) (I o.left)).setCell
      (Q b (171 + i * 7 + 4)) (I o.life)).setCell (Q b (171 + i * 7 + 5)) (yl o.tag)).setCell (Q b (171 + i * 7 + 6)) (I 0)) b { S with qo:=upd S.qo i ⟨o,0⟩ }:=by
  have h0:=tm_qo h i 0 hi (by omega) (I o.id) { (TS.qo _ i) with od:={ (TS.qo _ i).od with id:=o.id } } rfl _ rfl
  have N:=tm_qo h0 i 1 hi (by omega) (I o.side) { (TS.qo _ i) with od:={ (TS.qo _ i).od with side:=o.side } } rfl _ rfl
  have Y:=tm_qo N i 2 hi (by omega) (I o.ticks) { (TS.qo _ i) with od:={ (TS.qo _ i).od with ticks:=o.ticks } } rfl _ rfl
  have h3:=tm_qo Y i 3 hi (by omega) (I o.left) { (TS.qo _ i) with od:={ (TS.qo _ i).od with left:=o.left } } rfl _ rfl
  have h4:=tm_qo h3 i 4 hi (by omega) (I o.life) { (TS.qo _ i) with od:={ (TS.qo _ i).od with life:=o.life } } rfl _ rfl
  have h5:=tm_qo h4 i 5 hi (by omega) (yl o.tag) { (TS.qo _ i) with od:={ (TS.qo _ i).od with tag:=o.tag } } rfl _ rfl
  have h6:=tm_qo h5 i 6 hi (by omega) (I 0) { (TS.qo _ i) with yg:=0 } rfl _ rfl
  simp only [cL,zr] at h6
  exact h6
theorem gr_put {w:World} {b:Nat} (o:Od) (i:Nat) :
    w.grownBy (((((((w.setCell (Q b (171 + i * 7)) (I o.id)).setCell (Q b (171 + i * 7 + 1)) (I o.side)).setCell (Q b (171 + i * 7 + 2)) (I o.ticks)).setCell (Q b (171 + i * 7 + 3)) (I o.left)).setCell
      (Q b (171 + i * 7 + 4)) (I o.life)).setCell (Q b (171 + i * 7 + 5)) (yl o.tag)).setCell (Q b (171 + i * 7 + 6)) (I 0)) (some b) :=
  zR (zR (zR (zR (zR (zR (zR (yS _ _) _ _) _ _) _ _) _ _) _ _) _ _) _ _
theorem lf_lt {s:Bool} {T:TypeId} {b:Nat} {S:TS} {t:Tr} {o:Od} {w w':World} {h:Nat} (he:LFEnd s T b S t o w h w') (hi:TI s S t) (qb:S.lc < 20):(h:Int) < 21:=by
  obtain ⟨S',_,_,⟨N,_,_⟩ | ⟨c,u,_,_,N,_⟩⟩:=he
  · have:=(hi.range h N).2; omega
  · omega
theorem link_eq0 (S:TS) (h m:Nat) (lf:Int) (hy:(S.nd h).yo = 0) :
    ({ S with nd:=upd S.nd h { (S.nd h) with qty:=(S.nd h).qty + lf,count:=(S.nd h).count + 1,el:=m,yo:=m } }:TS) = S.link h m lf:=by
  simp [TS.link,hy]
theorem link_eq1 (S:TS) (h m:Nat) (lf:Int) (hy:¬ (S.nd h).yo = 0) :
    ({ S with nd:=upd S.nd h { (S.nd h) with qty:=(S.nd h).qty + lf,count:=(S.nd h).count + 1,yo:=m },qo:=upd S.qo (S.nd h).yo { S.qo (S.nd h).yo with yg:=m } }:TS) = S.link h m lf:=by
  simp [TS.link,hy]
theorem cE {a w w':World} {G:Option Nat} (h:a.grownBy w G) (N:w'.os = w.os) (Y:w'.tape = w.tape) (h3:w'.output = w.output) (h4:w'.heap = w.heap):a.grownBy w' G :=
  ⟨N.trans h.os,Y.trans h.tape,h3.trans h.output,by rw [h4]; exact h.size,fun k hk xD=>by rw [h4]; exact h.block k hk xD⟩
def aV (T:TypeId) (s:Bool) (w:World) (b:Nat) (sd:Int) (seq:List Od):Prop:=∃ S t,TM T w b S∧TI s S t∧QI S t sd seq∧S.lc ≤ seq.length
theorem tm_zero (w:World) (ho:Array Value) (T:TypeId) (h0:ho[0]? = some (I 0)) (N:ho[1]? = some (I 0)) (Y:∀ i,i < 21→(ho.toList.drop (2 + i * 8)).take 8 = zNd.vs) (h3:ho[170]? = some (I 0)) (h4:∀ i,i < 21→(ho.toList.drop (171 + i * 7)).take 7 = zQo.vs) :
    TM T (w.alloc (Obj.cells ho T)) w.heap.size zTS:=by
  have hh:=heap_alloc_new w (Obj.cells ho T)
  have xt:∀ o,(w.alloc (Obj.cells ho T)).cell? (yr w o) = ho[o]?:=fun o=>cell_of_row _ w.heap.size o ho T (0,0) hh
  have uG:∀ (o n:Nat) (A:List Value),(ho.toList.drop o).take n = A→(w.alloc (Obj.cells ho T)).rangeAt w.heap.size o A:=fun o n A kp j v hv=>by
    rw [xt,← hv,← kp,List.getElem?_take,List.getElem?_drop,Array.getElem?_toList]
    rw [← kp,List.getElem?_take] at hv
    split
    · rfl
    · next V=>rw [if_neg V] at hv; cases hv
  exact ⟨(xt 0).trans h0,(xt 1).trans N,fun i hi=>uG _ 8 _ (Y i hi),(xt 170).trans h3,fun i hi=>uG _ 7 _ (h4 i hi),fun o=>by simp only [World.frozen?,hh]; simp,ho,hh⟩
theorem zu {T:TypeId} {s:Bool} {w w':World} {b:Nat} {sd:Int} {seq:List Od} (h:aV T s w b sd seq) (E:w'.heap[b]? = w.heap[b]?):aV T s w' b sd seq:=by
  obtain ⟨S,t,N,Y⟩:=h
  exact ⟨S,t,bD N E,Y⟩
theorem zH {T:TypeId} {s:Bool} {w:World} {b:Nat} {sd:Int} {seq:List Od} (h:aV T s w b sd seq):b < w.heap.size:=by
  obtain ⟨S,t,N,_⟩:=h; exact tm_lt N
theorem sumL_bound:∀ l:List Od,(∀ o ∈ l,0 ≤ o.left∧o.left ≤ 1000000)→0 ≤ sumL l∧sumL l ≤ 1000000 * l.length
  | [],_=>by simp [sumL]
  | a :: l,h=>by
    have N:=h a (by simp)
    have Y:=sumL_bound l (fun o Z=>h o (by simp [Z]))
    simp only [sumL,List.length_cons]
    omega
def insT (s:Bool) (k:Int):List Int→List Int
 | []=>[k]
 | a :: r=>if bt s k a then k :: a :: r else if k = a then a :: r else a :: insT s k r
theorem insT_mem (s:Bool) (k x:Int):∀ T:List Int,x ∈ insT s k T ↔ x = k ∨ x ∈ T
 | []=>by simp [insT]
 | a :: r=>by
  rw [insT]
  split
  ·simp
  ·split
   ·next h=>subst h; simp
   ·simp [insT_mem s k x r]; constructor
    ·rintro (h | h | h) <;> simp [h]
    ·rintro (h | h | h) <;> simp [h]
theorem insT_sorted (s:Bool) (k:Int):∀ T:List Int,T.Pairwise (bt s)→(insT s k T).Pairwise (bt s)
 | [],_=>by simp [insT]
 | a :: r,h=>by
  obtain ⟨p1,p2⟩:=List.pairwise_cons.1 h
  rw [insT]
  split
  ·next hk=>exact List.pairwise_cons.2 ⟨fun x hx=>by
    rcases List.mem_cons.1 hx with rfl | hx
    ·exact hk
    ·exact bt_trans hk (p1 x hx),h⟩
  ·next hk =>
   split
   ·exact h
   ·next xD =>
    refine List.pairwise_cons.2 ⟨fun x hx=>?_,insT_sorted s k r p2⟩
    rcases (insT_mem s k x r).1 hx with rfl | hx
    ·rcases bt_total s x a with N | N | N
     ·exact absurd N hk
     ·exact absurd N xD
     ·exact N
    ·exact p1 x hx
def tks (s:Bool):List Od→List Int
 | []=>[]
 | o :: r=>insT s o.ticks (tks s r)
theorem cI (s:Bool):∀ seq:List Od,IsT s seq (tks s seq)
 | []=>⟨by simp [tks],by simp [tks]⟩
 | o :: r=>by
  have ih:=cI s r
  refine ⟨insT_sorted s _ _ ih.sorted,fun k=>?_⟩
  rw [tks,insT_mem,ih.mem]
  constructor
  ·rintro (rfl | ⟨o',N,Y⟩)
   ·exact ⟨o,by simp,rfl⟩
   ·exact ⟨o',by simp [N],Y⟩
  ·rintro ⟨o',N,Y⟩
   rcases List.mem_cons.1 N with rfl | N
   ·exact .inl Y.symm
   ·exact .inr ⟨o',N,Y⟩
theorem fu {s:Bool}:∀ {cs B:List Int},cs.Pairwise (bt s)→B.Pairwise (bt s)→(∀ k,k ∈ cs ↔ k ∈ B)→cs = B
 | [],B,_,_,h=>by
  cases B with
  | nil=>rfl
  | cons b r=>exact absurd ((h b).2 (by simp)) (by simp)
 | a :: cs,[],_,_,h=>absurd ((h a).1 (by simp)) (by simp)
 | a :: cs,b :: B,hA,hB,h=>by
  obtain ⟨p1,p2⟩:=List.pairwise_cons.1 hA
  obtain ⟨q1,q2⟩:=List.pairwise_cons.1 hB
  have hab:a = b:=by
   rcases List.mem_cons.1 ((h a).1 (by simp)) with e | e
   ·exact e
   ·rcases List.mem_cons.1 ((h b).2 (by simp)) with e' | e'
    ·exact e'.symm
    ·exact absurd (p1 b e') (bt_asymm (q1 a e))
  subst hab
  rw [fu p2 q2 fun k=>⟨fun hk=>?_,fun hk=>?_⟩]
  ·rcases List.mem_cons.1 ((h k).1 (by simp [hk])) with e | e
   ·subst e; exact absurd (p1 _ hk) (bt_irr _ _)
   ·exact e
  ·rcases List.mem_cons.1 ((h k).2 (by simp [hk])) with e | e
   ·subst e; exact absurd (q1 _ hk) (bt_irr _ _)
   ·exact e
theorem isT_unique {s:Bool} {seq:List Od} {cs:List Int} (hA:IsT s seq cs):cs = tks s seq :=
 fu hA.sorted (cI s seq).sorted fun k=>(hA.mem k).trans ((cI s seq).mem k).symm
structure Lv where
 side:Int
 ticks:Int
 qty:Int
 count:Int
def Lv.vs (n:Lv):List Value:=[I n.side,I n.ticks,I n.qty,I n.count]
theorem Lv.len (o:Lv):o.vs.length = 4:=rfl
def lvAt (sd:Int) (seq:List Od) (k:Int):Lv:=⟨sd,k,sumL (atK seq k),(atK seq k).length⟩
def aU (s:Bool) (sd:Int) (seq:List Od):List Lv:=(tks s seq).map (lvAt sd seq)
def quOf (s:Bool) (seq:List Od):List Od:=(tks s seq).flatMap (atK seq)
def Nd.lv (n:Nd):Lv:=⟨n.side,n.ticks,n.qty,n.count⟩
theorem eB {s:Bool} {S:TS} {t:Tr} {sd:Int} {seq:List Od} (hi:TI s S t) (hq:QI S t sd seq):(t.hs.map fun h=>(S.nd h).lv) = aU s sd seq:=by
 rw [aU,← isT_unique (isT_of hi hq),List.map_map]
 refine List.map_congr_left fun h hh=>?_
 have hQ:=hq.q h hh
 show Lv.mk _ _ _ _ = Lv.mk _ _ _ _
 rw [hQ.side,hQ.qty,hQ.cnt]
theorem tree_orders {s:Bool} {S:TS} {t:Tr} {sd:Int} {seq:List Od} (hi:TI s S t) (hq:QI S t sd seq):(t.hs.flatMap fun h=>(qs seq (S.nd h).ticks).map fun i=>(S.qo i).od) = quOf s seq:=by
 rw [quOf,← isT_unique (isT_of hi hq),List.flatMap_map]
 rw [List.flatMap_def,List.flatMap_def]
 congr 1
 refine List.map_congr_left fun h hh=>?_
 exact qsF_map _ _ seq 1 (fun i o Z=>hq.od i o Z)
def zOdv:Value:=.agg (yx 0 0 0 0 0 ⟨#[]⟩).toArray
def frOf (q:List Od):Value:=match q.head? with
 | some o=>.tuple #[o.val,.bool true]
 | none=>.tuple #[zOdv,.bool false]
def betB (n a b:Int):Bool:=decide (a ≤ n) && decide (n ≤ b)
theorem zI (n a b:Int) (w:World) :
  Calls Tryz.prog 81 #[I n,I a,I b] w fun e w'=>e = yn (.bool (betB n a b))∧w' = w:=by
 go_enter Tryz.func81,Tryz.ntmps81
 go_wp2
 all_goals go_ret
 all_goals exact ⟨zp (by rw [Bool.eq_iff_iff]; simp [betB]; omega),rfl⟩
theorem cZ (n:Int) (w:World) :
  Calls Tryz.prog 125 #[I n] w fun e w'=>e = yn (.bool (betB n 1 2))∧w' = w:=by
 go_enter Tryz.func125,Tryz.ntmps125
 go_wp2
 all_goals go_ret
 all_goals exact ⟨zp (by rw [Bool.eq_iff_iff]; simp [betB]; omega),rfl⟩
theorem cY (n:Int) (w:World) :
  Calls Tryz.prog 126 #[I n] w fun e w'=>e = yn (.bool (betB n 0 1))∧w' = w:=by
 go_enter Tryz.func126,Tryz.ntmps126
 go_wp2
 all_goals go_ret
 all_goals exact ⟨zp (by rw [Bool.eq_iff_iff]; simp [betB]; omega),rfl⟩
def tagC (c:UInt8):Bool:=betB c.toNat 32 126
def tagB (s:ByteArray):Bool:=decide (s.size ≤ 12) && s.data.toList.all tagC
theorem drop_cons (s:ByteArray) (k:Nat) (h:k < s.size):s.data.toList.drop k = s[k] :: s.data.toList.drop (k + 1):=by
 rw [get_nat s k h]
 exact xd (by rw [data_len]; exact h)
theorem tag_yes (s:ByteArray) (h:s.size ≤ 12) (hk:s.data.toList.all tagC = true):tagB s = true:=by simp only [tagB,hk,decide_eq_true h,Bool.and_true]
theorem tag_long (s:ByteArray) (h:¬ s.size ≤ 12):tagB s = false:=by simp only [tagB,decide_eq_false h,Bool.false_and]
theorem tag_no (s:ByteArray) (hk:s.data.toList.all tagC = false):tagB s = false:=by simp only [tagB,hk,Bool.and_false]
theorem isTag_any (s:ByteArray) (w:World) (hs:s.size ≤ maxLen) :
  Calls Tryz.prog 127 #[yl s] w fun e w'=>e = yn (.bool (tagB s))∧w' = w:=by
 unfold maxLen at hs
 by_cases hl:s.size ≤ 12
 ·have px:¬ ((12:Int) < s.size):=by omega
  go_enter Tryz.func127,Tryz.ntmps127
  go_wp2_with fail
  go_loop [9] (fun i=>∃ k:Nat,k ≤ s.size∧i = I k∧Hid (s.data.toList.all tagC = (s.data.toList.drop k).all tagC)) (fun i=>s.size - (intOf i).toNat)
  case atStart=>exact ⟨0,Nat.zero_le _,rfl,by simp [Hid]⟩
  case round =>
   obtain ⟨k,hk,rfl,D⟩:=hrel
   by_cases xJ:k < s.size
   ·have uF:(k:Int) < s.size:=by omega
    have qZ:=drop_cons s k xJ
    have hgen:∃ c,c = s[k]:=⟨_,rfl⟩
    obtain ⟨c,hc⟩:=hgen
    have hw:betB (wrap64 (s[k].toNat:Int)) 32 126 = tagC c:=by
     have hlt256:=UInt8.toNat_lt s[k]
     rw [hc,show wrap64 (s[k].toNat:Int) = (s[k].toNat:Int) by unfold wrap64; omega]; rfl
    cases ht:tagC c
    ·rw [ht] at hw
     have HT:Hid (s.data.toList.all tagC = false):=by
      have:=U D
      rw [qZ,List.all_cons,← hc,ht,Bool.false_and] at this
      exact this
     clear qZ hc ht
     go_wp2_with fail
     refine (zI (wrap64 (s[k].toNat:Int)) 32 126 w).mono ?_
     rintro e w1 ⟨rfl,rfl⟩
     go_wp2_with fail
     go_ret
     exact ⟨zp (tag_no s (U HT)).symm,rfl⟩
    ·rw [ht] at hw
     have HN:Hid (s.data.toList.all tagC = (s.data.toList.drop (k + 1)).all tagC):=by
      have:=U D
      rw [qZ,List.all_cons,← hc,ht,Bool.true_and] at this
      exact this
     clear qZ hc ht
     go_wp2_with fail
     refine (zI (wrap64 (s[k].toNat:Int)) 32 126 w).mono ?_
     rintro e w1 ⟨rfl,rfl⟩
     go_wp2_with fail
     go_round
     case rel=>exact ⟨k + 1,by omega,by go_num,U HN⟩
     case measure=>simp [intOf]; omega
   ·go_wp2_with fail
    go_ret
    have h:=U D
    rw [xb (by rw [data_len]; omega)] at h
    exact ⟨zp (tag_yes s hl (by rw [h]; rfl)).symm,rfl⟩
 ·have px:(12:Int) < s.size:=by omega
  go_enter Tryz.func127,Tryz.ntmps127
  go_wp2_with fail
  go_ret
  exact ⟨zp (tag_long s hl).symm,rfl⟩
def ordB (o:Od):Bool:=betB o.side 1 2 && betB o.life 0 1 && tagB o.tag && betB o.ticks 1 1000000 && betB o.left 1 1000000
theorem orderOK_any (o:Od) (w:World) (hs:o.tag.size ≤ maxLen) :
  Calls Tryz.prog 83 #[.agg (yx o.id o.side o.ticks o.left o.life o.tag).toArray] w fun e w'=>e = yn (.bool (ordB o))∧yp w w':=by
 have HT:=H (fun W=>isTag_any o.tag W hs)
 clear hs
 cases N:betB o.side 1 2
 ·go_enter Tryz.func83,Tryz.ntmps83
  go_wp2_with (first | (go_at_call 125; refine (cZ _ _).mono ?_; rintro e w' ⟨rfl,rfl⟩) | (go_at_call 126; refine (cY _ _).mono ?_; rintro e w' ⟨rfl,rfl⟩) | (go_at_call 127; refine (U HT _).mono ?_; rintro e w' ⟨rfl,rfl⟩) | (go_at_call 81; refine (zI _ _ _ _).mono ?_; rintro e w' ⟨rfl,rfl⟩))
  go_ret
  exact ⟨zp (by simp [ordB,N]),by go_grown⟩
 ·
  cases Y:betB o.life 0 1
  ·go_enter Tryz.func83,Tryz.ntmps83
   go_wp2_with (first | (go_at_call 125; refine (cZ _ _).mono ?_; rintro e w' ⟨rfl,rfl⟩) | (go_at_call 126; refine (cY _ _).mono ?_; rintro e w' ⟨rfl,rfl⟩) | (go_at_call 127; refine (U HT _).mono ?_; rintro e w' ⟨rfl,rfl⟩) | (go_at_call 81; refine (zI _ _ _ _).mono ?_; rintro e w' ⟨rfl,rfl⟩))
   go_ret
   exact ⟨zp (by simp [ordB,N,Y]),by go_grown⟩
  ·
   cases h3:tagB o.tag
   ·go_enter Tryz.func83,Tryz.ntmps83
    go_wp2_with (first | (go_at_call 125; refine (cZ _ _).mono ?_; rintro e w' ⟨rfl,rfl⟩) | (go_at_call 126; refine (cY _ _).mono ?_; rintro e w' ⟨rfl,rfl⟩) | (go_at_call 127; refine (U HT _).mono ?_; rintro e w' ⟨rfl,rfl⟩) | (go_at_call 81; refine (zI _ _ _ _).mono ?_; rintro e w' ⟨rfl,rfl⟩))
    go_ret
    exact ⟨zp (by simp [ordB,N,Y,h3]),by go_grown⟩
   ·
    cases h4:betB o.ticks 1 1000000
    ·go_enter Tryz.func83,Tryz.ntmps83
     go_wp2_with (first | (go_at_call 125; refine (cZ _ _).mono ?_; rintro e w' ⟨rfl,rfl⟩) | (go_at_call 126; refine (cY _ _).mono ?_; rintro e w' ⟨rfl,rfl⟩) | (go_at_call 127; refine (U HT _).mono ?_; rintro e w' ⟨rfl,rfl⟩) | (go_at_call 81; refine (zI _ _ _ _).mono ?_; rintro e w' ⟨rfl,rfl⟩))
     go_ret
     exact ⟨zp (by simp [ordB,N,Y,h3,h4]),by go_grown⟩
    ·
     cases h5:betB o.left 1 1000000
     ·go_enter Tryz.func83,Tryz.ntmps83
      go_wp2_with (first | (go_at_call 125; refine (cZ _ _).mono ?_; rintro e w' ⟨rfl,rfl⟩) | (go_at_call 126; refine (cY _ _).mono ?_; rintro e w' ⟨rfl,rfl⟩) | (go_at_call 127; refine (U HT _).mono ?_; rintro e w' ⟨rfl,rfl⟩) | (go_at_call 81; refine (zI _ _ _ _).mono ?_; rintro e w' ⟨rfl,rfl⟩))
      go_ret
      exact ⟨zp (by simp [ordB,N,Y,h3,h4,h5]),by go_grown⟩
     ·go_enter Tryz.func83,Tryz.ntmps83
      go_wp2_with (first | (go_at_call 125; refine (cZ _ _).mono ?_; rintro e w' ⟨rfl,rfl⟩) | (go_at_call 126; refine (cY _ _).mono ?_; rintro e w' ⟨rfl,rfl⟩) | (go_at_call 127; refine (U HT _).mono ?_; rintro e w' ⟨rfl,rfl⟩) | (go_at_call 81; refine (zI _ _ _ _).mono ?_; rintro e w' ⟨rfl,rfl⟩))
      go_ret
      exact ⟨zp (by simp [ordB,N,Y,h3,h4,h5]),by go_grown⟩
end Go.Proofs.YtnphbkgfjanmgaaGreatDoor
