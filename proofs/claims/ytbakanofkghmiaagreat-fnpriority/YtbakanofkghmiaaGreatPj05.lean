/-
  Who trades ahead of whom in a list of orders, how many levels it has, and what a tree of them tells, as pure data; no function walked.
-/
import Derived.Test.YtbakanofkghmiaaGreatPj04
import Derived.Deep.LoopGhost
import Derived.BigRegion
set_option linter.unusedVariables false
set_option maxHeartbeats 6400000
set_option maxRecDepth 100000
namespace Go.Proofs.YtbakanofkghmiaaGreat
open Go.RowKit
def ahd (s:Bool) (a b:Od):Prop:=bt s a.ticks b.ticks ∨ (a.ticks = b.ticks∧a.id < b.id)
theorem ahd_irr (s:Bool) (a:Od):¬ ahd s a a:=by
 rintro (h | h)
 ·exact cn _ _ h
 ·omega
theorem ahd_trans {s:Bool} {a b c:Od} (z:ahd s a b) (K:ahd s b c):ahd s a c:=by
 rcases z with z | ⟨e1,z⟩ <;> rcases K with K | ⟨e2,K⟩
 ·exact .inl (bt_trans z K)
 ·exact .inl (e2 ▸ z)
 ·exact .inl (e1 ▸ K)
 ·exact .inr ⟨e1.trans e2,by omega⟩
theorem ahd_asymm {s:Bool} {a b:Od} (z:ahd s a b):¬ ahd s b a:=fun K=>ahd_irr s a (ahd_trans z K)
theorem ahd_total {s:Bool} {a b:Od} (h:a.id ≠ b.id):ahd s a b ∨ ahd s b a:=by
 rcases bt_total s a.ticks b.ticks with z | z | z
 ·exact .inl (.inl z)
 ·rcases Int.lt_or_gt_of_ne h with K | K
  ·exact .inl (.inr ⟨z,K⟩)
  ·exact .inr (.inr ⟨z.symm,K⟩)
 ·exact .inr (.inl z)
def aH (l:List Od):Prop:=l.Pairwise (fun a b=>a.id < b.id)
def zn (l:List Od) (sd:Int):List Od:=l.filter (fun o=>decide (o.side = sd))
theorem ofSide_snoc (l:List Od) (k:Nat) (c:Od) (h:l[k]? = some c):zn (l.take (k + 1)) c.side = zn (l.take k) c.side ++ [c]:=by
 obtain ⟨hk,rfl⟩:=yD.1 h
 unfold zn
 rw [List.take_succ_eq_append_getElem hk,List.filter_append]; simp
theorem ofSide_skip (l:List Od) (k:Nat) (c:Od) {sd:Int} (h:l[k]? = some c) (hs:¬ c.side = sd):zn (l.take (k + 1)) sd = zn (l.take k) sd:=by
 obtain ⟨hk,rfl⟩:=yD.1 h
 unfold zn
 rw [List.take_succ_eq_append_getElem hk,List.filter_append]; simp [hs]
theorem perm_split (p:Od→Bool):∀ l:List Od,List.Perm (l.filter p ++ l.filter (fun o=>!p o)) l
 | []=>by simp
 | a :: l=>by
  have ih:=perm_split p l
  by_cases h:p a = true
  ·simp only [List.filter_cons,h,if_true,Bool.not_true,Bool.false_eq_true,if_false,List.cons_append]
   exact ih.cons a
  ·simp only [Bool.not_eq_true] at h
   simp only [List.filter_cons,h,Bool.false_eq_true,if_false,Bool.not_false,if_true]
   exact List.perm_middle.trans (ih.cons a)
theorem flat_perm:∀ (T:List Int) (seq:List Od),T.Nodup→(∀ o ∈ seq,o.ticks ∈ T)→List.Perm (T.flatMap (atK seq)) seq
 | [],seq,_,h=>by
  cases seq with
  | nil=>simp
  | cons a r=>exact absurd (h a (by simp)) (by simp)
 | k :: T,seq,hd,h=>by
  have hd':=List.nodup_cons.1 hd
  have e:T.flatMap (atK seq) = T.flatMap (atK (seq.filter (fun o=>!decide (o.ticks = k)))):=by
   rw [List.flatMap_def,List.flatMap_def]
   congr 1
   refine List.map_congr_left fun k' ow=>?_
   unfold atK
   rw [List.filter_filter]
   refine List.filter_congr fun o _=>?_
   by_cases z:o.ticks = k'
   ·have:¬ o.ticks = k:=fun e=>hd'.1 (by rw [← e,z]; exact ow)
    simp [z]; rw [← z]; exact this
   ·simp [z]
  rw [List.flatMap_cons,e]
  refine (List.Perm.append_left _ (flat_perm T _ hd'.2 (fun o Y=>?_))).trans (perm_split _ seq)
  simp at Y
  rcases List.mem_cons.1 (h o Y.1) with z | z
  ·exact absurd z Y.2
  ·exact z
theorem flat_sorted {s:Bool}:∀ {T:List Int} {seq:List Od},T.Pairwise (bt s)→aH seq→(T.flatMap (atK seq)).Pairwise (ahd s)
 | [],_,_,_=>by simp
 | k :: T,seq,hT,hr=>by
  obtain ⟨p1,p2⟩:=List.pairwise_cons.1 hT
  rw [List.flatMap_cons,List.pairwise_append]
  refine ⟨?_,flat_sorted p2 hr,fun a ha b hb=>?_⟩
  ·have z:(atK seq k).Pairwise (fun a b=>a.id < b.id):=List.Pairwise.sublist List.filter_sublist hr
   refine z.imp_of_mem fun {a b} ha hb hab=>.inr ⟨?_,hab⟩
   simp [atK] at ha hb
   rw [ha.2,hb.2]
  ·simp only [List.mem_flatMap] at hb
   obtain ⟨k',z,K⟩:=hb
   simp [atK] at ha K
   exact .inl (by rw [ha.2,K.2]; exact p1 k' z)
theorem bt_nodup {s:Bool} {T:List Int} (h:T.Pairwise (bt s)):T.Nodup:=by
 unfold List.Nodup
 refine h.imp fun {a b} hab=>?_
 rintro rfl
 exact cn s a hab
structure IsT (s:Bool) (seq:List Od) (T:List Int):Prop where
 sorted:T.Pairwise (bt s)
 mem:∀ k,k ∈ T ↔ ∃ o ∈ seq,o.ticks = k
theorem isT_of {s:Bool} {S:TS} {t:Tr} {sd:Int} {seq:List Od} (hi:TI s S t) (hq:QI S t sd seq):IsT s seq (t.hs.map fun h=>(S.nd h).ticks):=by
 refine ⟨?_,fun k=>⟨fun hk=>?_,?_⟩⟩
 ·rw [List.pairwise_map]; exact hi.sorted
 ·obtain ⟨h,z,rfl⟩:=List.mem_map.1 hk
  have:=(hq.q h z).ne
  obtain ⟨a,ha⟩:=List.exists_mem_of_ne_nil _ this
  obtain ⟨_,_,o,h3,h4⟩:=bI _ _ _ _ ha
  exact ⟨o,yL h3,h4⟩
 ·rintro ⟨o,Y,rfl⟩
  obtain ⟨h,z,K⟩:=hq.cover o Y
  exact List.mem_map.2 ⟨h,z,K⟩
def nlevR:List Od→Nat
 | []=>0
 | x :: r=>nlevR r + if ∃ y ∈ r,y.side = x.side∧y.ticks = x.ticks then 0 else 1
theorem nlevR_eq:∀ (l:List Od) (hR B:List Int),hR.Nodup→B.Nodup→(∀ o ∈ l,o.side = 1 ∨ o.side = 2)→(∀ k,k ∈ hR ↔ ∃ o ∈ l,o.side = 1∧o.ticks = k)→(∀ k,k ∈ B ↔ ∃ o ∈ l,o.side = 2∧o.ticks = k)→nlevR l = hR.length + B.length
 | [],hR,B,_,_,_,hA,hB=>by
  have a0:hR = []:=List.eq_nil_iff_forall_not_mem.2 fun k hk=>by obtain ⟨o,h,_⟩:=(hA k).1 hk; simp at h
  have b0:B = []:=List.eq_nil_iff_forall_not_mem.2 fun k hk=>by obtain ⟨o,h,_⟩:=(hB k).1 hk; simp at h
  rw [a0,b0]; rfl
 | x :: l,hR,B,dA,dB,hs,hA,hB=>by
  rw [nlevR]
  have hs':∀ o ∈ l,o.side = 1 ∨ o.side = 2:=fun o Y=>hs o (by simp [Y])
  by_cases he:∃ y ∈ l,y.side = x.side∧y.ticks = x.ticks
  ·rw [if_pos he]
   obtain ⟨y,hy,e1,e2⟩:=he
   refine nlevR_eq l hR B dA dB hs' (fun k=>(hA k).trans ⟨?_,?_⟩) (fun k=>(hB k).trans ⟨?_,?_⟩)
   ·rintro ⟨o,Y,z,K⟩
    rcases List.mem_cons.1 Y with rfl | Y
    ·exact ⟨y,hy,e1.trans z,e2.trans K⟩
    ·exact ⟨o,Y,z,K⟩
   ·rintro ⟨o,Y,h⟩; exact ⟨o,by simp [Y],h⟩
   ·rintro ⟨o,Y,z,K⟩
    rcases List.mem_cons.1 Y with rfl | Y
    ·exact ⟨y,hy,e1.trans z,e2.trans K⟩
    ·exact ⟨o,Y,z,K⟩
   ·rintro ⟨o,Y,h⟩; exact ⟨o,by simp [Y],h⟩
  ·rw [if_neg he]
   have qS:∀ y ∈ l,y.side = x.side→y.ticks ≠ x.ticks:=fun y hy z K=>he ⟨y,hy,z,K⟩
   rcases hs x (by simp) with hx | hx
   ·have hxA:x.ticks ∈ hR:=(hA _).2 ⟨x,by simp,hx,rfl⟩
    have:=nlevR_eq l (hR.erase x.ticks) B (dA.erase _) dB hs' (fun k=>?_) (fun k=>(hB k).trans ⟨?_,?_⟩)
    ·rw [List.length_erase_of_mem hxA] at this
     have hp:0 < hR.length:=List.length_pos_of_mem hxA
     omega
    ·rw [List.Nodup.mem_erase_iff dA,hA]
     constructor
     ·rintro ⟨hk,o,Y,z,K⟩
      rcases List.mem_cons.1 Y with rfl | Y
      ·exact absurd K.symm hk
      ·exact ⟨o,Y,z,K⟩
     ·rintro ⟨o,Y,z,K⟩
      exact ⟨fun e=>qS o Y (z.trans hx.symm) (K.trans e),o,by simp [Y],z,K⟩
    ·rintro ⟨o,Y,z,K⟩
     rcases List.mem_cons.1 Y with rfl | Y
     ·omega
     ·exact ⟨o,Y,z,K⟩
    ·rintro ⟨o,Y,h⟩; exact ⟨o,by simp [Y],h⟩
   ·have hxB:x.ticks ∈ B:=(hB _).2 ⟨x,by simp,hx,rfl⟩
    have:=nlevR_eq l hR (B.erase x.ticks) dA (dB.erase _) hs' (fun k=>(hA k).trans ⟨?_,?_⟩) (fun k=>?_)
    ·rw [List.length_erase_of_mem hxB] at this
     have hp:0 < B.length:=List.length_pos_of_mem hxB
     omega
    ·rintro ⟨o,Y,z,K⟩
     rcases List.mem_cons.1 Y with rfl | Y
     ·omega
     ·exact ⟨o,Y,z,K⟩
    ·rintro ⟨o,Y,h⟩; exact ⟨o,by simp [Y],h⟩
    ·rw [List.Nodup.mem_erase_iff dB,hB]
     constructor
     ·rintro ⟨hk,o,Y,z,K⟩
      rcases List.mem_cons.1 Y with rfl | Y
      ·exact absurd K.symm hk
      ·exact ⟨o,Y,z,K⟩
     ·rintro ⟨o,Y,z,K⟩
      exact ⟨fun e=>qS o Y (z.trans hx.symm) (K.trans e),o,by simp [Y],z,K⟩
def nlev (l:List Od):Nat:=nlevR l.reverse
theorem nlev_snoc (l:List Od) (x:Od):nlev (l ++ [x]) = nlev l + if ∃ y ∈ l,y.side = x.side∧y.ticks = x.ticks then 0 else 1:=by
 unfold nlev; rw [List.reverse_append]; simp [nlevR]
theorem nlev_eq {l:List Od} {hR B:List Int} (hs:∀ o ∈ l,o.side = 1 ∨ o.side = 2) (hA:IsT true (zn l 1) hR) (hB:IsT false (zn l 2) B):nlev l = hR.length + B.length:=by
 refine nlevR_eq _ hR B (bt_nodup hA.sorted) (bt_nodup hB.sorted) (fun o Y=>hs o (by simpa using Y)) (fun k=>(hA.mem k).trans ?_) (fun k=>(hB.mem k).trans ?_)
 ·simp [zn,and_assoc]
 ·simp [zn,and_assoc]
def dg (s:Bool) (l:List Od) (sd:Int) (i:Nat) (o:Od):Prop:=l[i]? = some o∧o.side = sd∧∀ j o',l[j]? = some o'→o'.side = sd→j ≠ i→ahd s o o'
theorem front_unique {s:Bool} {l:List Od} {sd:Int} {i j:Nat} {o o':Od} (h:dg s l sd i o) (h':dg s l sd j o'):i = j∧o = o':=by
 obtain ⟨a1,a2,a3⟩:=h
 obtain ⟨b1,b2,b3⟩:=h'
 have ar:i = j:=by
  rcases Nat.decEq i j with xA | rfl
  ·exact absurd (a3 j o' b1 b2 (fun e=>xA e.symm)) (ahd_asymm (b3 i o a1 a2 xA))
  ·rfl
 subst ar
 rw [a1] at b1
 exact ⟨rfl,Option.some.inj b1⟩
theorem queue_front {s:Bool} {l:List Od} {sd:Int} {T:List Int} (hr:aH l) (hT:IsT s (zn l sd) T) {o:Od} (Y:(T.flatMap (atK (zn l sd))).head? = some o) :
  ∃ i,dg s l sd i o:=by
 have hrs:aH (zn l sd):=List.Pairwise.sublist List.filter_sublist hr
 have hp:=flat_perm T (zn l sd) (bt_nodup hT.sorted) (fun o Y=>(hT.mem _).2 ⟨o,Y,rfl⟩)
 have oV:=flat_sorted hT.sorted hrs
 generalize T.flatMap (atK (zn l sd)) = ya at *
 cases ya with
 | nil=>simp at Y
 | cons a r =>
  simp at Y; subst Y
  have hm:a ∈ zn l sd:=hp.mem_iff.1 (by simp)
  simp [zn] at hm
  obtain ⟨i,hi⟩:=List.mem_iff_getElem?.1 hm.1
  refine ⟨i,hi,hm.2,fun j o' L hs xA=>?_⟩
  have hm':o' ∈ a :: r:=hp.mem_iff.2 (by simp [zn]; exact ⟨yL L,hs⟩)
  rcases List.mem_cons.1 hm' with rfl | hm'
  ·exfalso
   obtain ⟨z,e1⟩:=yD.1 hi
   obtain ⟨K,e2⟩:=yD.1 L
   have hp2:=List.pairwise_iff_getElem.1 hr
   rcases Nat.lt_or_gt_of_ne xA with h | h
   ·have:=hp2 j i K z h; rw [e1,e2] at this; omega
   ·have:=hp2 i j z K h; rw [e1,e2] at this; omega
  ·exact (List.pairwise_cons.1 oV).1 o' hm'
theorem queue_none {s:Bool} {l:List Od} {sd:Int} {T:List Int} (hT:IsT s (zn l sd) T) (Y:(T.flatMap (atK (zn l sd))).head? = none):∀ o ∈ l,o.side ≠ sd:=by
 have hp:=flat_perm T (zn l sd) (bt_nodup hT.sorted) (fun o Y=>(hT.mem _).2 ⟨o,Y,rfl⟩)
 rw [List.head?_eq_none_iff] at Y
 rw [Y] at hp
 have:=List.nil_perm.1 hp
 intro o z K
 have hm:o ∈ zn l sd:=by simp [zn]; exact ⟨z,K⟩
 rw [this] at hm; simp at hm
def Od.vs (o:Od):List Value:=(yt o.id o.side o.ticks o.left o.life o.tag)
theorem Od.len (o:Od):o.vs.length = 6:=rfl
def Od.val (o:Od):Value:=.agg (yt o.id o.side o.ticks o.left o.life o.tag).toArray
def Nd.vs (n:Nd):List Value:=[H n.side,H n.ticks,H n.qty,H n.count,H n.be,H n.wo,H n.el,H n.yo]
def Qo.vs (q:Qo):List Value:=[H q.od.id,H q.od.side,H q.od.ticks,H q.od.left,H q.od.life,yi q.od.tag,H q.yg]
structure TM (T:TypeId) (w:World) (b:Nat) (S:TS):Prop where
  root:w.cell? ⟨b,0,none⟩ = some (.int .i64 S.root)
  lc:w.cell? ⟨b,1,none⟩ = some (.int .i64 S.lc)
  nd:∀ i,i < 21→w.rangeAt b (2 + i * 8) (S.nd i).vs
  oc:w.cell? ⟨b,170,none⟩ = some (.int .i64 S.oc)
  qo:∀ i,i < 21→w.rangeAt b (171 + i * 7) (S.qo i).vs
  fr:∀ o,w.frozen? ⟨b,o,none⟩ = false
  obj:∃ cur,w.heap[b]? = some (.cells cur T (0,0))
theorem obj_set {w:World} {b o:Nat} {v:Value} {T:TypeId} (h:∃ xp,w.heap[b]? = some (.cells xp T (0,0))):∃ xp,(w.setCell (J b o) v).heap[b]? = some (.cells xp T (0,0)):=by
  obtain ⟨xp,h⟩:=h
  exact ⟨xp.setIfInBounds o v,by simp [World.setCell,Array.getElem?_modify,h]⟩
theorem tm_lt {w:World} {b:Nat} {S:TS} {T:TypeId} (h:TM T w b S):b < w.heap.size:=yH w _ h.root
theorem aS {w w':World} {b:Nat} {S:TS} {T:TypeId} (h:TM T w b S) (hb:w'.heap[b]? = w.heap[b]?):TM T w' b S :=
  ⟨(yN (a:=(J b 0)) hb).trans h.root,(yN (a:=(J b 1)) hb).trans h.lc,
   fun i hi j v hv=>(yN (a:=(J b (2 + i * 8 + j))) hb).trans (h.nd i hi j v hv),(yN (a:=(J b 170)) hb).trans h.oc,
   fun i hi j v hv=>(yN (a:=(J b (171 + i * 7 + j))) hb).trans (h.qo i hi j v hv),fun o=>(World.frozen?_of_block (a:=(J b o)) hb).trans (h.fr o),by rw [hb]; exact h.obj⟩
theorem cR {w w':World} {b C:Nat} {S:TS} {T:TypeId} (h:TM T w b S) (hb:Below C w w') (hC:b < C):TM T w' b S:=aS h (hb.block b hC)
theorem dC {w w':World} {b:Nat} {G:Option Nat} {S:TS} {T:TypeId} (h:TM T w b S) (hg:w.grownBy w' G) (xA:some b ≠ G):TM T w' b S:=aS h (hg.block b (tm_lt h) xA)
theorem bW {w:World} {b o n:Nat} {v:Value} {cs:List Value} (h:w.rangeAt b o cs) (hn:n < o ∨ o + cs.length ≤ n):(w.setCell (J b n) v).rangeAt b o cs:=fun j u hu=>by
  have L:=(yD.1 hu).1
  rw [yI _ _ _ _ (zI (by omega))]
  exact h j u hu
theorem dV {w:World} {b o j0:Nat} {v:Value} {cs:List Value} (h:w.rangeAt b o cs) (jk:j0 < cs.length):(w.setCell (J b (o + j0)) v).rangeAt b o (cs.set j0 v):=fun j u hu=>by
  by_cases L:j = j0
  · subst L
    rw [List.getElem?_set_self jk] at hu
    obtain rfl:=Option.some.inj hu
    exact yJ _ _ _ (h j _ (yE jk))
  · rw [yT (fun e=>L e.symm)] at hu
    rw [yI _ _ _ _ (zI (by omega))]
    exact h j u hu
theorem bH {w:World} {b o n:Nat} {v u:Value} (h:w.cell? (J b o) = some u) (hn:o ≠ n):(w.setCell (J b n) v).cell? (J b o) = some u:=by
  rw [yI _ _ _ _ (zI (by omega))]; exact h
theorem Nd.len (n:Nd):n.vs.length = 8:=rfl
theorem Qo.len (n:Qo):n.vs.length = 7:=rfl
theorem tm_root {w:World} {b:Nat} {S:TS} {T:TypeId} (h:TM T w b S) (n:Nat):TM T (w.setCell (J b 0) (H n)) b { S with root:=n } :=
  ⟨yJ _ _ _ h.root,bH h.lc (by omega),fun i hi=>bW (h.nd i hi) (by omega),bH h.oc (by omega),fun i hi=>bW (h.qo i hi) (by omega),fun o=>by rw [World.frozen?_setCell]; exact h.fr o,obj_set h.obj⟩
theorem tm_lc {w:World} {b:Nat} {S:TS} {T:TypeId} (h:TM T w b S) (n:Nat):TM T (w.setCell (J b 1) (H n)) b { S with lc:=n } :=
  ⟨bH h.root (by omega),yJ _ _ _ h.lc,fun i hi=>bW (h.nd i hi) (by omega),bH h.oc (by omega),fun i hi=>bW (h.qo i hi) (by omega),fun o=>by rw [World.frozen?_setCell]; exact h.fr o,obj_set h.obj⟩
theorem tm_oc {w:World} {b:Nat} {S:TS} {T:TypeId} (h:TM T w b S) (n:Nat):TM T (w.setCell (J b 170) (H n)) b { S with oc:=n } :=
  ⟨bH h.root (by omega),bH h.lc (by omega),fun i hi=>bW (h.nd i hi) (by rw [Nd.len]; omega),yJ _ _ _ h.oc,fun i hi=>bW (h.qo i hi) (by omega),fun o=>by rw [World.frozen?_setCell]; exact h.fr o,obj_set h.obj⟩
theorem aJ {w:World} {b:Nat} {S:TS} {T:TypeId} (h:TM T w b S) (i0 j0:Nat) (uv:i0 < 21) (jk:j0 < 8) (v:Value) (n':Nd) (hn:n'.vs = (S.nd i0).vs.set j0 v) (o:Nat) (Y:o = 2 + i0 * 8 + j0) :
    TM T (w.setCell (J b o) v) b { S with nd:=upd S.nd i0 n' }:=by
  subst Y
  refine ⟨bH h.root (by omega),bH h.lc (by omega),fun i hi=>?_,bH h.oc (by omega),fun i hi=>bW (h.qo i hi) (by omega),fun o=>by rw [World.frozen?_setCell]; exact h.fr o,obj_set h.obj⟩
  by_cases hii:i = i0
  · subst hii
    show World.rangeAt _ _ _ (upd S.nd i n' i).vs
    rw [zp,hn]
    exact dV (h.nd i hi) jk
  · show World.rangeAt _ _ _ (upd S.nd i0 n' i).vs
    rw [zr _ _ hii]
    exact bW (h.nd i hi) (by rw [Nd.len]; omega)
theorem tm_qo {w:World} {b:Nat} {S:TS} {T:TypeId} (h:TM T w b S) (i0 j0:Nat) (uv:i0 < 21) (jk:j0 < 7) (v:Value) (n':Qo) (hn:n'.vs = (S.qo i0).vs.set j0 v) (o:Nat) (Y:o = 171 + i0 * 7 + j0) :
    TM T (w.setCell (J b o) v) b { S with qo:=upd S.qo i0 n' }:=by
  subst Y
  refine ⟨bH h.root (by omega),bH h.lc (by omega),fun i hi=>bW (h.nd i hi) (by rw [Nd.len]; omega),bH h.oc (by omega),fun i hi=>?_,fun o=>by rw [World.frozen?_setCell]; exact h.fr o,obj_set h.obj⟩
  by_cases hii:i = i0
  · subst hii
    show World.rangeAt _ _ _ (upd S.qo i n' i).vs
    rw [zp,hn]
    exact dV (h.qo i hi) jk
  · show World.rangeAt _ _ _ (upd S.qo i0 n' i).vs
    rw [zr _ _ hii]
    exact bW (h.qo i hi) (by rw [Qo.len]; omega)
theorem zN {w:World} {b o:Nat} {n:Nd} (h:w.rangeAt b o n.vs) :
    w.cell? (J b o) = some (H n.side)∧w.cell? (J b (o + 1)) = some (H n.ticks)∧w.cell? (J b (o + 2)) = some (H n.qty)∧w.cell? (J b (o + 3)) = some (H n.count) ∧
    w.cell? (J b (o + 4)) = some (H n.be)∧w.cell? (J b (o + 5)) = some (H n.wo)∧w.cell? (J b (o + 6)) = some (H n.el)∧w.cell? (J b (o + 7)) = some (H n.yo) :=
  ⟨h 0 _ rfl,h 1 _ rfl,h 2 _ rfl,h 3 _ rfl,h 4 _ rfl,h 5 _ rfl,h 6 _ rfl,h 7 _ rfl⟩
theorem dw {w:World} {b o:Nat} {n:Qo} (h:w.rangeAt b o n.vs) :
    w.cell? (J b o) = some (H n.od.id)∧w.cell? (J b (o + 1)) = some (H n.od.side)∧w.cell? (J b (o + 2)) = some (H n.od.ticks)∧w.cell? (J b (o + 3)) = some (H n.od.left) ∧
    w.cell? (J b (o + 4)) = some (H n.od.life)∧w.cell? (J b (o + 5)) = some (yi n.od.tag)∧w.cell? (J b (o + 6)) = some (H n.yg) :=
  ⟨h 0 _ rfl,h 1 _ rfl,h 2 _ rfl,h 3 _ rfl,h 4 _ rfl,h 5 _ rfl,h 6 _ rfl⟩
theorem zx {w:World} {b o:Nat} {n:Od} (h:w.rangeAt b o n.vs) :
    w.cell? (J b o) = some (H n.id)∧w.cell? (J b (o + 1)) = some (H n.side)∧w.cell? (J b (o + 2)) = some (H n.ticks)∧w.cell? (J b (o + 3)) = some (H n.left) ∧
    w.cell? (J b (o + 4)) = some (H n.life)∧w.cell? (J b (o + 5)) = some (yi n.tag) :=
  ⟨h 0 _ rfl,h 1 _ rfl,h 2 _ rfl,h 3 _ rfl,h 4 _ rfl,h 5 _ rfl⟩
def Cur.off:Cur→Nat
  | .root=>0
  | .be h=>2 + h * 8 + 4
  | .wo h=>2 + h * 8 + 5
def Cur.ok:Cur→Prop
  | .root=>True
  | .be h=>h < 21
  | .wo h=>h < 21
theorem cur_cell {w:World} {b:Nat} {S:TS} {T:TypeId} (h:TM T w b S) (c:Cur) (hc:c.ok):w.cell? (J b c.off) = some (H (S.rd c)):=by
  cases c with
  | root=>exact h.root
  | be a=>exact (zN (h.nd a hc)).2.2.2.2.1
  | wo a=>exact (zN (h.nd a hc)).2.2.2.2.2.1
theorem tm_cur {w:World} {b:Nat} {S:TS} {T:TypeId} (h:TM T w b S) (c:Cur) (hc:c.ok) (n:Nat):TM T (w.setCell (J b c.off) (H n)) b (S.wr n c):=by
  cases c with
  | root=>exact tm_root h n
  | be a=>exact aJ h a 4 hc (by omega) (H n) { S.nd a with be:=n } rfl _ rfl
  | wo a=>exact aJ h a 5 hc (by omega) (H n) { S.nd a with wo:=n } rfl _ rfl
theorem cG {α:Type} (f:Nat→α) (i:Nat) (x y:α):upd (upd f i x) i y = upd f i y:=by
  funext j; simp only [upd]; split <;> rfl
theorem zg (w:World) (cs:List Value) (t:TypeId):(w.alloc (Obj.cells cs.toArray t)).rangeAt w.heap.size 0 cs:=fun j u h=>by
  rw [cell_of_row _ w.heap.size (0 + j) cs.toArray t (0,0) (heap_alloc_new w _)]
  simpa using h
theorem ze (w:World) (o:Obj):(w.alloc o).heap.size = w.heap.size + 1:=by simp
theorem gr_drew {a w:World} {G:Option Nat} (h:a.grownBy w G):a.grownBy w.drew G:=⟨h.os,h.tape,h.output,h.size,h.block⟩
theorem aN {P:Program} {ops:Array Oper} {C:World→Prop} {ya:Act→Prop} {a:Act} {o:Oper} {rest:List Oper} {v:Value} (z:Region.wanted o (yielded ops a.tmps) = true) (K:∀ w',C w'→o.quietAt P a C w' v)
    (h3:∀ h2:Act→Prop,(∀ a,wpQuiet P ops C ya rest a→h2 a)→h2 (a.put o.dst v)):wpQuiet P ops C ya (o :: rest) a :=
  wpQuiet_step fun h2 hK=>by rw [if_pos z]; exact ⟨v,K,h3 h2 hK⟩
theorem di {P:Program} {id:Nat} {ya:Exit→Act→World→Prop} {a:Act} {w W:World} {l:List Oper} (hm:P.follows .mixedOrders = true) (hB:Region.lexB .any l.toArray = true) (hg:W.grownBy w none)
    (h:wpQuiet P l.toArray (fun w'=>W.grownBy w' none) (fun a'=>∀ w',W.grownBy w' none→ya .normal a' w') l a):(Code.region id l.toArray true).wp P ya a w :=
  wp_region_quiet (C:=fun w'=>W.grownBy w' none) hm hB ⟨hg.os,hg.tape,hg.output,hg.size,hg.block⟩ (by simpa using h)
theorem zP {a w:World} {b:Nat} (h:a.grownBy w (some b)) (o:Nat) (v:Value):a.grownBy (w.setCell (J b o) v) (some b) :=
  ⟨h.os,h.tape,h.output,by rw [World.setCell]; simpa using h.size,fun k hk xA=>(yP w _ _ k (fun e=>xA (by rw [e]))).trans (h.block k hk xA)⟩
theorem grow_eq (S:TS) (cu:Cur) (o:Od) (m:Nat) (hm:m = S.lc + 1) :
    ({ root:=({ S with lc:=m }.wr m cu).root,lc:=({ S with lc:=m }.wr m cu).lc,oc:=({ S with lc:=m }.wr m cu).oc,
       nd:=upd ({ S with lc:=m }.wr m cu).nd m { (({ S with lc:=m }.wr m cu).nd m) with side:=o.side,ticks:=o.ticks,qty:=0,count:=0 },qo:=({ S with lc:=m }.wr m cu).qo }:TS) = S.grow cu o.side o.ticks:=by
  subst hm
  cases cu <;> rfl
def LFI (s:Bool) (b:Nat) (S:TS) (t:Tr) (kk:Int) (W:World) (k:Nat) (p:Value) (wr:World):Prop :=
  ∃ c u,p = I b ((zW c).off)∧u.hs.length ≤ k∧Way s S t kk c u∧W.grownBy wr none
def LFEnd (s:Bool) (T:TypeId) (b:Nat) (S:TS) (t:Tr) (o:Od) (w:World) (h:Nat) (w':World):Prop :=
  ∃ (S':TS),TM T w' b S'∧w.grownBy w' (some b) ∧
    ((h ∈ t.hs∧(S.nd h).ticks = o.ticks∧S' = S) ∨ (∃ c u,Way s S t o.ticks c u∧S.rd (zW c) = 0∧h = S.lc + 1∧S' = S.grow (zW c) o.side o.ticks))
theorem cur_ok {s:Bool} {S:TS} {t:Tr} {k:Int} {c:Ctx} {u:Tr} (hi:TI s S t) (h:Way s S t k c u) (vp:S.lc < 20):(zW c).ok:=by
  have hm:∀ a ∈ cl c ++ cr c,a < 21:=fun a ha=>by
    have:=hi.range a (by rw [h.plug,cT]; simp at ha ⊢; rcases ha with h | h <;> simp [h])
    omega
  match c,hm with
  | [],_=>trivial
  | (true,a,r) :: c,hm=>exact hm a (by simp [cr])
  | (false,a,l) :: c,hm=>exact hm a (by simp [cl])
theorem tm_put {w:World} {b:Nat} {S:TS} {T:TypeId} (h:TM T w b S) (i:Nat) (hi:i < 21) (o:Od) :
    TM T (((((((w.setCell (J b (171 + i * 7)) (H o.id)).setCell (J b (171 + i * 7 + 1)) (H o.side)).setCell (J b (171 + i * 7 + 2)) (H o.ticks)).setCell (J b (171 + i * 7 + 3)) (H o.left)).setCell
      (J b (171 + i * 7 + 4)) (H o.life)).setCell (J b (171 + i * 7 + 5)) (yi o.tag)).setCell (J b (171 + i * 7 + 6)) (H 0)) b { S with qo:=upd S.qo i ⟨o,0⟩ }:=by
  have h0:=tm_qo h i 0 hi (by omega) (H o.id) { (TS.qo _ i) with od:={ (TS.qo _ i).od with id:=o.id } } rfl _ rfl
  have z:=tm_qo h0 i 1 hi (by omega) (H o.side) { (TS.qo _ i) with od:={ (TS.qo _ i).od with side:=o.side } } rfl _ rfl
  have K:=tm_qo z i 2 hi (by omega) (H o.ticks) { (TS.qo _ i) with od:={ (TS.qo _ i).od with ticks:=o.ticks } } rfl _ rfl
  have h3:=tm_qo K i 3 hi (by omega) (H o.left) { (TS.qo _ i) with od:={ (TS.qo _ i).od with left:=o.left } } rfl _ rfl
  have h4:=tm_qo h3 i 4 hi (by omega) (H o.life) { (TS.qo _ i) with od:={ (TS.qo _ i).od with life:=o.life } } rfl _ rfl
  have h5:=tm_qo h4 i 5 hi (by omega) (yi o.tag) { (TS.qo _ i) with od:={ (TS.qo _ i).od with tag:=o.tag } } rfl _ rfl
  have h6:=tm_qo h5 i 6 hi (by omega) (H 0) { (TS.qo _ i) with yg:=0 } rfl _ rfl
  simp only [cG,zp] at h6
  exact h6
theorem gr_put {w:World} {b:Nat} (o:Od) (i:Nat) :
    w.grownBy (((((((w.setCell (J b (171 + i * 7)) (H o.id)).setCell (J b (171 + i * 7 + 1)) (H o.side)).setCell (J b (171 + i * 7 + 2)) (H o.ticks)).setCell (J b (171 + i * 7 + 3)) (H o.left)).setCell
      (J b (171 + i * 7 + 4)) (H o.life)).setCell (J b (171 + i * 7 + 5)) (yi o.tag)).setCell (J b (171 + i * 7 + 6)) (H 0)) (some b) :=
  zP (zP (zP (zP (zP (zP (zP (yO _ _) _ _) _ _) _ _) _ _) _ _) _ _) _ _
theorem lf_lt {s:Bool} {T:TypeId} {b:Nat} {S:TS} {t:Tr} {o:Od} {w w':World} {h:Nat} (he:LFEnd s T b S t o w h w') (hi:TI s S t) (vp:S.lc < 20):(h:Int) < 21:=by
  obtain ⟨S',_,_,⟨z,_,_⟩ | ⟨c,u,_,_,z,_⟩⟩:=he
  · have:=(hi.range h z).2; omega
  · omega
theorem link_eq0 (S:TS) (h m:Nat) (lf:Int) (hy:(S.nd h).yo = 0) :
    ({ S with nd:=upd S.nd h { (S.nd h) with qty:=(S.nd h).qty + lf,count:=(S.nd h).count + 1,el:=m,yo:=m } }:TS) = S.link h m lf:=by
  simp [TS.link,hy]
theorem link_eq1 (S:TS) (h m:Nat) (lf:Int) (hy:¬ (S.nd h).yo = 0) :
    ({ S with nd:=upd S.nd h { (S.nd h) with qty:=(S.nd h).qty + lf,count:=(S.nd h).count + 1,yo:=m },qo:=upd S.qo (S.nd h).yo { S.qo (S.nd h).yo with yg:=m } }:TS) = S.link h m lf:=by
  simp [TS.link,hy]
theorem bY {a w w':World} {G:Option Nat} (h:a.grownBy w G) (z:w'.os = w.os) (K:w'.tape = w.tape) (h3:w'.output = w.output) (h4:w'.heap = w.heap):a.grownBy w' G :=
  ⟨z.trans h.os,K.trans h.tape,h3.trans h.output,by rw [h4]; exact h.size,fun k hk xA=>by rw [h4]; exact h.block k hk xA⟩
def aC (T:TypeId) (s:Bool) (w:World) (b:Nat) (sd:Int) (seq:List Od):Prop:=∃ S t,TM T w b S∧TI s S t∧QI S t sd seq∧S.lc ≤ seq.length
theorem tm_zero (w:World) (yj:Array Value) (T:TypeId) (h0:yj[0]? = some (H 0)) (z:yj[1]? = some (H 0)) (K:∀ i,i < 21→(yj.toList.drop (2 + i * 8)).take 8 = zNd.vs) (h3:yj[170]? = some (H 0)) (h4:∀ i,i < 21→(yj.toList.drop (171 + i * 7)).take 7 = zQo.vs) :
    TM T (w.alloc (Obj.cells yj T)) w.heap.size zTS:=by
  have hh:=heap_alloc_new w (Obj.cells yj T)
  have xn:∀ o,(w.alloc (Obj.cells yj T)).cell? (yn w o) = yj[o]?:=fun o=>cell_of_row _ w.heap.size o yj T (0,0) hh
  have uD:∀ (o n:Nat) (cs:List Value),(yj.toList.drop o).take n = cs→(w.alloc (Obj.cells yj T)).rangeAt w.heap.size o cs:=fun o n cs oS j v hv=>by
    rw [xn,← hv,← oS,List.getElem?_take,List.getElem?_drop,Array.getElem?_toList]
    rw [← oS,List.getElem?_take] at hv
    split
    · rfl
    · next L=>rw [if_neg L] at hv; cases hv
  exact ⟨(xn 0).trans h0,(xn 1).trans z,fun i hi=>uD _ 8 _ (K i hi),(xn 170).trans h3,fun i hi=>uD _ 7 _ (h4 i hi),fun o=>by simp only [World.frozen?,hh]; simp,yj,hh⟩
theorem zt {T:TypeId} {s:Bool} {w w':World} {b:Nat} {sd:Int} {seq:List Od} (h:aC T s w b sd seq) (hb:w'.heap[b]? = w.heap[b]?):aC T s w' b sd seq:=by
  obtain ⟨S,t,z,K⟩:=h
  exact ⟨S,t,aS z hb,K⟩
theorem zJ {T:TypeId} {s:Bool} {w:World} {b:Nat} {sd:Int} {seq:List Od} (h:aC T s w b sd seq):b < w.heap.size:=by
  obtain ⟨S,t,z,_⟩:=h; exact tm_lt z
theorem sumL_bound:∀ l:List Od,(∀ o ∈ l,0 ≤ o.left∧o.left ≤ 1000000)→0 ≤ sumL l∧sumL l ≤ 1000000 * l.length
  | [],_=>by simp [sumL]
  | a :: l,h=>by
    have z:=h a (by simp)
    have K:=sumL_bound l (fun o Y=>h o (by simp [Y]))
    simp only [sumL,List.length_cons]
    omega
theorem count_set:∀ (x:List Bool) (i:Nat),x[i]? = some false→(x.set i true).count false + 1 = x.count false
 | [],i,h=>by simp at h
 | b :: r,0,h=>by simp at h; subst h; simp
 | b :: r,i + 1,h=>by
  have ih:=count_set r i (by simpa using h)
  simp only [List.set_cons_succ,List.count_cons]
  omega
theorem no_false {x:List Bool} (h:x.count false = 0) (i:Nat):x[i]? ≠ some false:=fun e=>by
 have:=List.count_pos_iff.2 (yL e)
 omega
section
variable {P:Program} {ya:Exit→Act→World→Prop} {l:List Oper} (R:List Bool→Act→World→Prop)

theorem ready_facts {x:List Bool} (hx:x.length = l.length) {i:Nat} (h:i ∈ Region.ready .any l.toArray x.toArray) :
  ∃ o,l[i]? = some o∧x[i]? = some false∧∀ e ∈ o.after,Region.binds .any e = true→x[e.on]? = some true:=by
 obtain ⟨z,o,K,h3⟩:=mem_ready.1 h
 refine ⟨o,by simpa using K,?_,fun e he hb=>?_⟩
 ·by_cases hi:i < x.length
  ·simp [hi] at z; simp [hi,z]
  ·simp [hi] at z
 ·have:=h3 e he hb
  by_cases hi:e.on < x.length
  ·simp [hi] at this; simp [hi,this]
  ·simp [hi] at this
theorem bT {x:List Bool} (h:Region.ready .any l.toArray x.toArray = []) (hx:x.length = l.length) (i:Nat) (o:Oper) (Y:l[i]? = some o) (D:∀ e ∈ o.after,Region.binds .any e = true→x[e.on]? = some true):x[i]? = some true:=by
 have hi:i < x.length:=by rw [hx]; exact (yD.1 Y).1
 cases hb:x[i]
 ·exfalso
  have:i ∈ Region.ready .any l.toArray x.toArray:=mem_ready.2 ⟨by simp [hi,hb],o,by simpa using Y,fun e he hbd=>by
   have:=D e he hbd
   obtain ⟨z,K⟩:=yD.1 this
   simp [z,K]⟩
  rw [h] at this; simp at this
 ·simp [hi,hb]
theorem wpAny_inv
  (vT:∀ x a w,R x a w→x.length = l.length→Region.ready .any l.toArray x.toArray = []→ya .normal a w)
  (kq:∀ x a w i o,R x a w→x.length = l.length→l[i]? = some o→x[i]? = some false→(∀ e ∈ o.after,Region.binds .any e = true→x[e.on]? = some true) →
   (if Region.wanted o (yielded l.toArray a.tmps) then o.wp P a w (fun a' w'=>R (x.set i true) a' w') ya else R (x.set i true) (a.put o.dst Z) w)) :
  ∀ (n:Nat) (x:List Bool) (a:Act) (w:World),x.count false = n→x.length = l.length→R x a w→wpAny P .any l.toArray ya n x.toArray a w
 | 0,x,a,w,hn,hx,A=>by
  have hr:Region.ready .any l.toArray x.toArray = []:=by
   apply List.eq_nil_iff_forall_not_mem.2
   intro i hi
   obtain ⟨o,_,K,_⟩:=ready_facts hx hi
   exact no_false hn i K
  exact ⟨hr,vT x a w A hx hr⟩
 | n + 1,x,a,w,hn,hx,A=>by
  refine ⟨fun hr=>vT x a w A hx hr,fun i hi=>?_⟩
  obtain ⟨o,z,K,h3⟩:=ready_facts hx hi
  have hs:=kq x a w i o A hx z K h3
  have hc:=count_set x i K
  have hnext:∀ a' w',R (x.set i true) a' w'→wpAny P .any l.toArray ya n (x.toArray.setIfInBounds i true) a' w':=fun a' w' h=>by
   have:=wpAny_inv vT kq n (x.set i true) a' w' (by omega) (by simpa using hx) h
   simpa using this
  have Y:l.toArray[i]? = some o:=by simpa using z
  unfold wpOp
  rw [Y]
  simp only
  split
  ·next hw=>rw [if_pos hw] at hs; exact .inl (Oper.wp_mono hnext hs)
  ·next hw=>rw [if_neg hw] at hs; exact hnext _ _ hs
theorem dl {id:Nat} {a:Act} {w:World} (hm:P.follows .mixedOrders = true)
  (h0:R (List.replicate l.length false) a { w with drawn:=w.drawn + 1 })
  (vT:∀ x a w,R x a w→x.length = l.length→Region.ready .any l.toArray x.toArray = []→ya .normal a w)
  (kq:∀ x a w i o,R x a w→x.length = l.length→l[i]? = some o→x[i]? = some false→(∀ e ∈ o.after,Region.binds .any e = true→x[e.on]? = some true) →
   (if Region.wanted o (yielded l.toArray a.tmps) then o.wp P a w (fun a' w'=>R (x.set i true) a' w') ya else R (x.set i true) (a.put o.dst Z) w)) :
  (Code.region id l.toArray true).wp P ya a w:=by
 refine wp_region_any hm ?_
 have:=wpAny_inv R vT kq l.length (List.replicate l.length false) a { w with drawn:=w.drawn + 1 } (by simp) (by simp) h0
 simpa using this
end
def RGrow (base:World) (xh:(Nat→Value)→Act) (C:Nat→Value→Prop) (x:List Bool) (hR:Act) (W:World):Prop :=
 ∃ f,hR = xh f∧yl base W∧∀ j,x[j]? = some true→C j (f j)
theorem zz {C:Nat→Value→Prop} {x:List Bool} {f:Nat→Value} {i:Nat} {v:Value} (h:∀ j,x[j]? = some true→C j (f j)) (hv:C i v):∀ j,(x.set i true)[j]? = some true→C j (upd f i v j):=fun j L=>by
 by_cases hji:j = i
 ·subst hji; rw [zp]; exact hv
 ·rw [zr _ _ hji]; rw [yT (fun e=>hji e.symm)] at L; exact h j L
theorem aK {l:List Oper} {x:List Bool} (h:Region.ready .any l.toArray x.toArray = []) (hx:x.length = l.length) (hacy:∀ (i:Nat) (o:Oper),l[i]? = some o→∀ e ∈ o.after,e.on < i):∀ i,i < l.length→x[i]? = some true:=by
 intro i
 induction i using Nat.strongRecOn with
 | _ i ih =>
  intro hi
  refine bT h hx i l[i] (yE hi) fun e he _=>?_
  have:=hacy i l[i] (yE hi) e he
  exact ih e.on this (by omega)
end Go.Proofs.YtbakanofkghmiaaGreat
