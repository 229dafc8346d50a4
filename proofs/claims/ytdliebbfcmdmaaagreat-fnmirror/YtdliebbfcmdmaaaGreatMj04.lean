/-
  Who trades ahead of whom in a list of orders, how many levels it has, and what a tree of them tells, as pure data; no function walked.
-/
import Derived.Test.YtdliebbfcmdmaaaGreatMj03
import Derived.Deep.RegionWith
import Derived.Deep.LoopGhost
import Derived.BigRegion
set_option linter.unusedVariables false
set_option maxHeartbeats 6400000
set_option maxRecDepth 100000
namespace Go.Proofs.YtdliebbfcmdmaaaGreat
open Go.RowKit
def ahd (s:Bool) (a b:Od):Prop:=bt s a.ticks b.ticks ∨ (a.ticks = b.ticks∧a.id < b.id)
theorem ahd_irr (s:Bool) (a:Od):¬ ahd s a a:=by
 rintro (h | h)
 ·exact bt_irr _ _ h
 ·omega
theorem ahd_trans {s:Bool} {a b c:Od} (Q:ahd s a b) (N:ahd s b c):ahd s a c:=by
 rcases Q with Q | ⟨e1,Q⟩ <;> rcases N with N | ⟨e2,N⟩
 ·exact .inl (bt_trans Q N)
 ·exact .inl (e2 ▸ Q)
 ·exact .inl (e1 ▸ N)
 ·exact .inr ⟨e1.trans e2,by omega⟩
theorem ahd_asymm {s:Bool} {a b:Od} (Q:ahd s a b):¬ ahd s b a:=fun N=>ahd_irr s a (ahd_trans Q N)
theorem ahd_total {s:Bool} {a b:Od} (h:a.id ≠ b.id):ahd s a b ∨ ahd s b a:=by
 rcases bt_total s a.ticks b.ticks with Q | Q | Q
 ·exact .inl (.inl Q)
 ·rcases Int.lt_or_gt_of_ne h with N | N
  ·exact .inl (.inr ⟨Q,N⟩)
  ·exact .inr (.inr ⟨Q.symm,N⟩)
 ·exact .inr (.inl Q)
def ba (l:List Od):Prop:=l.Pairwise (fun a b=>a.id < b.id)
def zt (l:List Od) (sd:Int):List Od:=l.filter (fun o=>decide (o.side = sd))
theorem ofSide_snoc (l:List Od) (k:Nat) (c:Od) (h:l[k]? = some c):zt (l.take (k + 1)) c.side = zt (l.take k) c.side ++ [c]:=by
 obtain ⟨hk,rfl⟩:=yG.1 h
 unfold zt
 rw [List.take_succ_eq_append_getElem hk,List.filter_append]; simp
theorem ofSide_skip (l:List Od) (k:Nat) (c:Od) {sd:Int} (h:l[k]? = some c) (hs:¬ c.side = sd):zt (l.take (k + 1)) sd = zt (l.take k) sd:=by
 obtain ⟨hk,rfl⟩:=yG.1 h
 unfold zt
 rw [List.take_succ_eq_append_getElem hk,List.filter_append]; simp [hs]
theorem perm_split (p:Od→Bool):∀ l:List Od,List.Perm (l.filter p ++ l.filter (fun o=>!p o)) l
 | []=>by simp
 | a :: l=>by
  have ih:=perm_split p l
  by_cases h:p a = true
  ·simp only [List.filter_cons,h,if_true,Bool.not_true,Bool.false_eq_true,if_false,List.cons_append]
   exact ih.cons a
  ·simp only [Bool.not_eq_true] at h
   simp only [List.filter_cons,h,Bool.false_eq_true,if_false,Bool.not_false,if_true]
   exact List.perm_middle.trans (ih.cons a)
theorem flat_perm:∀ (T:List Int) (seq:List Od),T.Nodup→(∀ o ∈ seq,o.ticks ∈ T)→List.Perm (T.flatMap (atK seq)) seq
 | [],seq,_,h=>by
  cases seq with
  | nil=>simp
  | cons a r=>exact absurd (h a (by simp)) (by simp)
 | k :: T,seq,hd,h=>by
  have hd':=List.nodup_cons.1 hd
  have e:T.flatMap (atK seq) = T.flatMap (atK (seq.filter (fun o=>!decide (o.ticks = k)))):=by
   rw [List.flatMap_def,List.flatMap_def]
   congr 1
   refine List.map_congr_left fun k' kY=>?_
   unfold atK
   rw [List.filter_filter]
   refine List.filter_congr fun o _=>?_
   by_cases Q:o.ticks = k'
   ·have:¬ o.ticks = k:=fun e=>hd'.1 (by rw [← e,Q]; exact kY)
    simp [Q]; rw [← Q]; exact this
   ·simp [Q]
  rw [List.flatMap_cons,e]
  refine (List.Perm.append_left _ (flat_perm T _ hd'.2 (fun o Z=>?_))).trans (perm_split _ seq)
  simp at Z
  rcases List.mem_cons.1 (h o Z.1) with Q | Q
  ·exact absurd Q Z.2
  ·exact Q
theorem flat_sorted {s:Bool}:∀ {T:List Int} {seq:List Od},T.Pairwise (bt s)→ba seq→(T.flatMap (atK seq)).Pairwise (ahd s)
 | [],_,_,_=>by simp
 | k :: T,seq,hT,hr=>by
  obtain ⟨p1,p2⟩:=List.pairwise_cons.1 hT
  rw [List.flatMap_cons,List.pairwise_append]
  refine ⟨?_,flat_sorted p2 hr,fun a ha b L=>?_⟩
  ·have Q:(atK seq k).Pairwise (fun a b=>a.id < b.id):=List.Pairwise.sublist List.filter_sublist hr
   refine Q.imp_of_mem fun {a b} ha L hab=>.inr ⟨?_,hab⟩
   simp [atK] at ha L
   rw [ha.2,L.2]
  ·simp only [List.mem_flatMap] at L
   obtain ⟨k',Q,N⟩:=L
   simp [atK] at ha N
   exact .inl (by rw [ha.2,N.2]; exact p1 k' Q)
theorem bt_nodup {s:Bool} {T:List Int} (h:T.Pairwise (bt s)):T.Nodup:=by
 unfold List.Nodup
 refine h.imp fun {a b} hab=>?_
 rintro rfl
 exact bt_irr s a hab
structure IsT (s:Bool) (seq:List Od) (T:List Int):Prop where
 sorted:T.Pairwise (bt s)
 mem:∀ k,k ∈ T ↔ ∃ o ∈ seq,o.ticks = k
theorem isT_of {s:Bool} {S:TS} {t:Tr} {sd:Int} {seq:List Od} (hi:TI s S t) (hq:QI S t sd seq):IsT s seq (t.hs.map fun h=>(S.nd h).ticks):=by
 refine ⟨?_,fun k=>⟨fun hk=>?_,?_⟩⟩
 ·rw [List.pairwise_map]; exact hi.sorted
 ·obtain ⟨h,Q,rfl⟩:=List.mem_map.1 hk
  have:=(hq.q h Q).ne
  obtain ⟨a,ha⟩:=List.exists_mem_of_ne_nil _ this
  obtain ⟨_,_,o,h3,h4⟩:=bD _ _ _ _ ha
  exact ⟨o,yO h3,h4⟩
 ·rintro ⟨o,Z,rfl⟩
  obtain ⟨h,Q,N⟩:=hq.cover o Z
  exact List.mem_map.2 ⟨h,Q,N⟩
def nlevR:List Od→Nat
 | []=>0
 | x :: r=>nlevR r + if ∃ y ∈ r,y.side = x.side∧y.ticks = x.ticks then 0 else 1
theorem nlevR_eq:∀ (l:List Od) (xm B:List Int),xm.Nodup→B.Nodup→(∀ o ∈ l,o.side = 1 ∨ o.side = 2)→(∀ k,k ∈ xm ↔ ∃ o ∈ l,o.side = 1∧o.ticks = k)→(∀ k,k ∈ B ↔ ∃ o ∈ l,o.side = 2∧o.ticks = k)→nlevR l = xm.length + B.length
 | [],xm,B,_,_,_,hA,hB=>by
  have a0:xm = []:=List.eq_nil_iff_forall_not_mem.2 fun k hk=>by obtain ⟨o,h,_⟩:=(hA k).1 hk; simp at h
  have b0:B = []:=List.eq_nil_iff_forall_not_mem.2 fun k hk=>by obtain ⟨o,h,_⟩:=(hB k).1 hk; simp at h
  rw [a0,b0]; rfl
 | x :: l,xm,B,dA,dB,hs,hA,hB=>by
  rw [nlevR]
  have hs':∀ o ∈ l,o.side = 1 ∨ o.side = 2:=fun o Z=>hs o (by simp [Z])
  by_cases he:∃ y ∈ l,y.side = x.side∧y.ticks = x.ticks
  ·rw [if_pos he]
   obtain ⟨y,hy,e1,e2⟩:=he
   refine nlevR_eq l xm B dA dB hs' (fun k=>(hA k).trans ⟨?_,?_⟩) (fun k=>(hB k).trans ⟨?_,?_⟩)
   ·rintro ⟨o,Z,Q,N⟩
    rcases List.mem_cons.1 Z with rfl | Z
    ·exact ⟨y,hy,e1.trans Q,e2.trans N⟩
    ·exact ⟨o,Z,Q,N⟩
   ·rintro ⟨o,Z,h⟩; exact ⟨o,by simp [Z],h⟩
   ·rintro ⟨o,Z,Q,N⟩
    rcases List.mem_cons.1 Z with rfl | Z
    ·exact ⟨y,hy,e1.trans Q,e2.trans N⟩
    ·exact ⟨o,Z,Q,N⟩
   ·rintro ⟨o,Z,h⟩; exact ⟨o,by simp [Z],h⟩
  ·rw [if_neg he]
   have ja:∀ y ∈ l,y.side = x.side→y.ticks ≠ x.ticks:=fun y hy Q N=>he ⟨y,hy,Q,N⟩
   rcases hs x (by simp) with hx | hx
   ·have hxA:x.ticks ∈ xm:=(hA _).2 ⟨x,by simp,hx,rfl⟩
    have:=nlevR_eq l (xm.erase x.ticks) B (dA.erase _) dB hs' (fun k=>?_) (fun k=>(hB k).trans ⟨?_,?_⟩)
    ·rw [List.length_erase_of_mem hxA] at this
     have hp:0 < xm.length:=List.length_pos_of_mem hxA
     omega
    ·rw [List.Nodup.mem_erase_iff dA,hA]
     constructor
     ·rintro ⟨hk,o,Z,Q,N⟩
      rcases List.mem_cons.1 Z with rfl | Z
      ·exact absurd N.symm hk
      ·exact ⟨o,Z,Q,N⟩
     ·rintro ⟨o,Z,Q,N⟩
      exact ⟨fun e=>ja o Z (Q.trans hx.symm) (N.trans e),o,by simp [Z],Q,N⟩
    ·rintro ⟨o,Z,Q,N⟩
     rcases List.mem_cons.1 Z with rfl | Z
     ·omega
     ·exact ⟨o,Z,Q,N⟩
    ·rintro ⟨o,Z,h⟩; exact ⟨o,by simp [Z],h⟩
   ·have hxB:x.ticks ∈ B:=(hB _).2 ⟨x,by simp,hx,rfl⟩
    have:=nlevR_eq l xm (B.erase x.ticks) dA (dB.erase _) hs' (fun k=>(hA k).trans ⟨?_,?_⟩) (fun k=>?_)
    ·rw [List.length_erase_of_mem hxB] at this
     have hp:0 < B.length:=List.length_pos_of_mem hxB
     omega
    ·rintro ⟨o,Z,Q,N⟩
     rcases List.mem_cons.1 Z with rfl | Z
     ·omega
     ·exact ⟨o,Z,Q,N⟩
    ·rintro ⟨o,Z,h⟩; exact ⟨o,by simp [Z],h⟩
    ·rw [List.Nodup.mem_erase_iff dB,hB]
     constructor
     ·rintro ⟨hk,o,Z,Q,N⟩
      rcases List.mem_cons.1 Z with rfl | Z
      ·exact absurd N.symm hk
      ·exact ⟨o,Z,Q,N⟩
     ·rintro ⟨o,Z,Q,N⟩
      exact ⟨fun e=>ja o Z (Q.trans hx.symm) (N.trans e),o,by simp [Z],Q,N⟩
def nlev (l:List Od):Nat:=nlevR l.reverse
theorem nlev_snoc (l:List Od) (x:Od):nlev (l ++ [x]) = nlev l + if ∃ y ∈ l,y.side = x.side∧y.ticks = x.ticks then 0 else 1:=by
 unfold nlev; rw [List.reverse_append]; simp [nlevR]
theorem nlev_eq {l:List Od} {xm B:List Int} (hs:∀ o ∈ l,o.side = 1 ∨ o.side = 2) (hA:IsT true (zt l 1) xm) (hB:IsT false (zt l 2) B):nlev l = xm.length + B.length:=by
 refine nlevR_eq _ xm B (bt_nodup hA.sorted) (bt_nodup hB.sorted) (fun o Z=>hs o (by simpa using Z)) (fun k=>(hA.mem k).trans ?_) (fun k=>(hB.mem k).trans ?_)
 ·simp [zt,and_assoc]
 ·simp [zt,and_assoc]
def IsFront (s:Bool) (l:List Od) (sd:Int) (i:Nat) (o:Od):Prop:=l[i]? = some o∧o.side = sd∧∀ j o',l[j]? = some o'→o'.side = sd→j ≠ i→ahd s o o'
theorem front_unique {s:Bool} {l:List Od} {sd:Int} {i j:Nat} {o o':Od} (h:IsFront s l sd i o) (h':IsFront s l sd j o'):i = j∧o = o':=by
 obtain ⟨a1,a2,a3⟩:=h
 obtain ⟨b1,b2,b3⟩:=h'
 have pD:i = j:=by
  rcases Nat.decEq i j with xB | rfl
  ·exact absurd (a3 j o' b1 b2 (fun e=>xB e.symm)) (ahd_asymm (b3 i o a1 a2 xB))
  ·rfl
 subst pD
 rw [a1] at b1
 exact ⟨rfl,Option.some.inj b1⟩
theorem queue_front {s:Bool} {l:List Od} {sd:Int} {T:List Int} (hr:ba l) (hT:IsT s (zt l sd) T) {o:Od} (Z:(T.flatMap (atK (zt l sd))).head? = some o) :
  ∃ i,IsFront s l sd i o:=by
 have hrs:ba (zt l sd):=List.Pairwise.sublist List.filter_sublist hr
 have hp:=flat_perm T (zt l sd) (bt_nodup hT.sorted) (fun o Z=>(hT.mem _).2 ⟨o,Z,rfl⟩)
 have pf:=flat_sorted hT.sorted hrs
 generalize T.flatMap (atK (zt l sd)) = h1 at *
 cases h1 with
 | nil=>simp at Z
 | cons a r =>
  simp at Z; subst Z
  have hm:a ∈ zt l sd:=hp.mem_iff.1 (by simp)
  simp [zt] at hm
  obtain ⟨i,hi⟩:=List.mem_iff_getElem?.1 hm.1
  refine ⟨i,hi,hm.2,fun j o' R hs xB=>?_⟩
  have hm':o' ∈ a :: r:=hp.mem_iff.2 (by simp [zt]; exact ⟨yO R,hs⟩)
  rcases List.mem_cons.1 hm' with rfl | hm'
  ·exfalso
   obtain ⟨Q,e1⟩:=yG.1 hi
   obtain ⟨N,e2⟩:=yG.1 R
   have hp2:=List.pairwise_iff_getElem.1 hr
   rcases Nat.lt_or_gt_of_ne xB with h | h
   ·have:=hp2 j i N Q h; rw [e1,e2] at this; omega
   ·have:=hp2 i j Q N h; rw [e1,e2] at this; omega
  ·exact (List.pairwise_cons.1 pf).1 o' hm'
theorem queue_none {s:Bool} {l:List Od} {sd:Int} {T:List Int} (hT:IsT s (zt l sd) T) (Z:(T.flatMap (atK (zt l sd))).head? = none):∀ o ∈ l,o.side ≠ sd:=by
 have hp:=flat_perm T (zt l sd) (bt_nodup hT.sorted) (fun o Z=>(hT.mem _).2 ⟨o,Z,rfl⟩)
 rw [List.head?_eq_none_iff] at Z
 rw [Z] at hp
 have:=List.nil_perm.1 hp
 intro o Q N
 have hm:o ∈ zt l sd:=by simp [zt]; exact ⟨Q,N⟩
 rw [this] at hm; simp at hm
def Od.vs (o:Od):List Value:=(yv o.id o.side o.ticks o.left o.life o.tag)
theorem Od.len (o:Od):o.vs.length = 6:=rfl
def Od.val (o:Od):Value:=.agg (yv o.id o.side o.ticks o.left o.life o.tag).toArray
def Nd.vs (n:Nd):List Value:=[H n.side,H n.ticks,H n.qty,H n.count,H n.be,H n.wo,H n.el,H n.yo]
def Qo.vs (q:Qo):List Value:=[H q.od.id,H q.od.side,H q.od.ticks,H q.od.left,H q.od.life,yk q.od.tag,H q.yg]
structure TM (T:TypeId) (w:World) (b:Nat) (S:TS):Prop where
  root:w.cell? ⟨b,0,none⟩ = some (.int .i64 S.root)
  lc:w.cell? ⟨b,1,none⟩ = some (.int .i64 S.lc)
  nd:∀ i,i < 21→w.rangeAt b (2 + i * 8) (S.nd i).vs
  oc:w.cell? ⟨b,170,none⟩ = some (.int .i64 S.oc)
  qo:∀ i,i < 21→w.rangeAt b (171 + i * 7) (S.qo i).vs
  fr:∀ o,w.frozen? ⟨b,o,none⟩ = false
  obj:∃ cur,w.heap[b]? = some (.cells cur T (0,0))
theorem obj_set {w:World} {b o:Nat} {v:Value} {T:TypeId} (h:∃ xr,w.heap[b]? = some (.cells xr T (0,0))):∃ xr,(w.setCell (J b o) v).heap[b]? = some (.cells xr T (0,0)):=by
  obtain ⟨xr,h⟩:=h
  exact ⟨xr.setIfInBounds o v,by simp [World.setCell,Array.getElem?_modify,h]⟩
theorem tm_lt {w:World} {b:Nat} {S:TS} {T:TypeId} (h:TM T w b S):b < w.heap.size:=yK w _ h.root
theorem aW {w w':World} {b:Nat} {S:TS} {T:TypeId} (h:TM T w b S) (L:w'.heap[b]? = w.heap[b]?):TM T w' b S :=
  ⟨(yQ (a:=(J b 0)) L).trans h.root,(yQ (a:=(J b 1)) L).trans h.lc,
   fun i hi j v hv=>(yQ (a:=(J b (2 + i * 8 + j))) L).trans (h.nd i hi j v hv),(yQ (a:=(J b 170)) L).trans h.oc,
   fun i hi j v hv=>(yQ (a:=(J b (171 + i * 7 + j))) L).trans (h.qo i hi j v hv),fun o=>(World.frozen?_of_block (a:=(J b o)) L).trans (h.fr o),by rw [L]; exact h.obj⟩
theorem cD {w w':World} {b C:Nat} {S:TS} {T:TypeId} (h:TM T w b S) (L:Below C w w') (hC:b < C):TM T w' b S:=aW h (L.block b hC)
theorem dj {w w':World} {b:Nat} {G:Option Nat} {S:TS} {T:TypeId} (h:TM T w b S) (hg:w.grownBy w' G) (xB:some b ≠ G):TM T w' b S:=aW h (hg.block b (tm_lt h) xB)
theorem bP {w:World} {b o n:Nat} {v:Value} {cs:List Value} (h:w.rangeAt b o cs) (hn:n < o ∨ o + cs.length ≤ n):(w.setCell (J b n) v).rangeAt b o cs:=fun j u hu=>by
  have R:=(yG.1 hu).1
  rw [yL _ _ _ _ (zO (by omega))]
  exact h j u hu
theorem dR {w:World} {b o j0:Nat} {v:Value} {cs:List Value} (h:w.rangeAt b o cs) (jd:j0 < cs.length):(w.setCell (J b (o + j0)) v).rangeAt b o (cs.set j0 v):=fun j u hu=>by
  by_cases R:j = j0
  · subst R
    rw [List.getElem?_set_self jd] at hu
    obtain rfl:=Option.some.inj hu
    exact yM _ _ _ (h j _ (yH jd))
  · rw [yW (fun e=>R e.symm)] at hu
    rw [yL _ _ _ _ (zO (by omega))]
    exact h j u hu
theorem bz {w:World} {b o n:Nat} {v u:Value} (h:w.cell? (J b o) = some u) (hn:o ≠ n):(w.setCell (J b n) v).cell? (J b o) = some u:=by
  rw [yL _ _ _ _ (zO (by omega))]; exact h
theorem Nd.len (n:Nd):n.vs.length = 8:=rfl
theorem Qo.len (n:Qo):n.vs.length = 7:=rfl
theorem tm_root {w:World} {b:Nat} {S:TS} {T:TypeId} (h:TM T w b S) (n:Nat):TM T (w.setCell (J b 0) (H n)) b { S with root:=n } :=
  ⟨yM _ _ _ h.root,bz h.lc (by omega),fun i hi=>bP (h.nd i hi) (by omega),bz h.oc (by omega),fun i hi=>bP (h.qo i hi) (by omega),fun o=>by rw [World.frozen?_setCell]; exact h.fr o,obj_set h.obj⟩
theorem tm_lc {w:World} {b:Nat} {S:TS} {T:TypeId} (h:TM T w b S) (n:Nat):TM T (w.setCell (J b 1) (H n)) b { S with lc:=n } :=
  ⟨bz h.root (by omega),yM _ _ _ h.lc,fun i hi=>bP (h.nd i hi) (by omega),bz h.oc (by omega),fun i hi=>bP (h.qo i hi) (by omega),fun o=>by rw [World.frozen?_setCell]; exact h.fr o,obj_set h.obj⟩
theorem tm_oc {w:World} {b:Nat} {S:TS} {T:TypeId} (h:TM T w b S) (n:Nat):TM T (w.setCell (J b 170) (H n)) b { S with oc:=n } :=
  ⟨bz h.root (by omega),bz h.lc (by omega),fun i hi=>bP (h.nd i hi) (by rw [Nd.len]; omega),yM _ _ _ h.oc,fun i hi=>bP (h.qo i hi) (by omega),fun o=>by rw [World.frozen?_setCell]; exact h.fr o,obj_set h.obj⟩
theorem aN {w:World} {b:Nat} {S:TS} {T:TypeId} (h:TM T w b S) (i0 j0:Nat) (uE:i0 < 21) (jd:j0 < 8) (v:Value) (n':Nd) (hn:n'.vs = (S.nd i0).vs.set j0 v) (o:Nat) (Z:o = 2 + i0 * 8 + j0) :
    TM T (w.setCell (J b o) v) b { S with nd:=upd S.nd i0 n' }:=by
  subst Z
  refine ⟨bz h.root (by omega),bz h.lc (by omega),fun i hi=>?_,bz h.oc (by omega),fun i hi=>bP (h.qo i hi) (by omega),fun o=>by rw [World.frozen?_setCell]; exact h.fr o,obj_set h.obj⟩
  by_cases hii:i = i0
  · subst hii
    show World.rangeAt _ _ _ (upd S.nd i n' i).vs
    rw [zn,hn]
    exact dR (h.nd i hi) jd
  · show World.rangeAt _ _ _ (upd S.nd i0 n' i).vs
    rw [zo _ _ hii]
    exact bP (h.nd i hi) (by rw [Nd.len]; omega)
theorem tm_qo {w:World} {b:Nat} {S:TS} {T:TypeId} (h:TM T w b S) (i0 j0:Nat) (uE:i0 < 21) (jd:j0 < 7) (v:Value) (n':Qo) (hn:n'.vs = (S.qo i0).vs.set j0 v) (o:Nat) (Z:o = 171 + i0 * 7 + j0) :
    TM T (w.setCell (J b o) v) b { S with qo:=upd S.qo i0 n' }:=by
  subst Z
  refine ⟨bz h.root (by omega),bz h.lc (by omega),fun i hi=>bP (h.nd i hi) (by rw [Nd.len]; omega),bz h.oc (by omega),fun i hi=>?_,fun o=>by rw [World.frozen?_setCell]; exact h.fr o,obj_set h.obj⟩
  by_cases hii:i = i0
  · subst hii
    show World.rangeAt _ _ _ (upd S.qo i n' i).vs
    rw [zn,hn]
    exact dR (h.qo i hi) jd
  · show World.rangeAt _ _ _ (upd S.qo i0 n' i).vs
    rw [zo _ _ hii]
    exact bP (h.qo i hi) (by rw [Qo.len]; omega)
theorem zI {w:World} {b o:Nat} {n:Nd} (h:w.rangeAt b o n.vs) :
    w.cell? (J b o) = some (H n.side)∧w.cell? (J b (o + 1)) = some (H n.ticks)∧w.cell? (J b (o + 2)) = some (H n.qty)∧w.cell? (J b (o + 3)) = some (H n.count) ∧
    w.cell? (J b (o + 4)) = some (H n.be)∧w.cell? (J b (o + 5)) = some (H n.wo)∧w.cell? (J b (o + 6)) = some (H n.el)∧w.cell? (J b (o + 7)) = some (H n.yo) :=
  ⟨h 0 _ rfl,h 1 _ rfl,h 2 _ rfl,h 3 _ rfl,h 4 _ rfl,h 5 _ rfl,h 6 _ rfl,h 7 _ rfl⟩
theorem di {w:World} {b o:Nat} {n:Qo} (h:w.rangeAt b o n.vs) :
    w.cell? (J b o) = some (H n.od.id)∧w.cell? (J b (o + 1)) = some (H n.od.side)∧w.cell? (J b (o + 2)) = some (H n.od.ticks)∧w.cell? (J b (o + 3)) = some (H n.od.left) ∧
    w.cell? (J b (o + 4)) = some (H n.od.life)∧w.cell? (J b (o + 5)) = some (yk n.od.tag)∧w.cell? (J b (o + 6)) = some (H n.yg) :=
  ⟨h 0 _ rfl,h 1 _ rfl,h 2 _ rfl,h 3 _ rfl,h 4 _ rfl,h 5 _ rfl,h 6 _ rfl⟩
theorem zC {w:World} {b o:Nat} {n:Od} (h:w.rangeAt b o n.vs) :
    w.cell? (J b o) = some (H n.id)∧w.cell? (J b (o + 1)) = some (H n.side)∧w.cell? (J b (o + 2)) = some (H n.ticks)∧w.cell? (J b (o + 3)) = some (H n.left) ∧
    w.cell? (J b (o + 4)) = some (H n.life)∧w.cell? (J b (o + 5)) = some (yk n.tag) :=
  ⟨h 0 _ rfl,h 1 _ rfl,h 2 _ rfl,h 3 _ rfl,h 4 _ rfl,h 5 _ rfl⟩
def Cur.off:Cur→Nat
  | .root=>0
  | .be h=>2 + h * 8 + 4
  | .wo h=>2 + h * 8 + 5
def Cur.ok:Cur→Prop
  | .root=>True
  | .be h=>h < 21
  | .wo h=>h < 21
theorem cur_cell {w:World} {b:Nat} {S:TS} {T:TypeId} (h:TM T w b S) (c:Cur) (hc:c.ok):w.cell? (J b c.off) = some (H (S.rd c)):=by
  cases c with
  | root=>exact h.root
  | be a=>exact (zI (h.nd a hc)).2.2.2.2.1
  | wo a=>exact (zI (h.nd a hc)).2.2.2.2.2.1
theorem tm_cur {w:World} {b:Nat} {S:TS} {T:TypeId} (h:TM T w b S) (c:Cur) (hc:c.ok) (n:Nat):TM T (w.setCell (J b c.off) (H n)) b (S.wr n c):=by
  cases c with
  | root=>exact tm_root h n
  | be a=>exact aN h a 4 hc (by omega) (H n) { S.nd a with be:=n } rfl _ rfl
  | wo a=>exact aN h a 5 hc (by omega) (H n) { S.nd a with wo:=n } rfl _ rfl
theorem bZ {α:Type} (f:Nat→α) (i:Nat) (x y:α):upd (upd f i x) i y = upd f i y:=by
  funext j; simp only [upd]; split <;> rfl
theorem zg (w:World) (cs:List Value) (t:TypeId):(w.alloc (Obj.cells cs.toArray t)).rangeAt w.heap.size 0 cs:=fun j u h=>by
  rw [cell_of_row _ w.heap.size (0 + j) cs.toArray t (0,0) (heap_alloc_new w _)]
  simpa using h
theorem ze (w:World) (o:Obj):(w.alloc o).heap.size = w.heap.size + 1:=by simp
theorem gr_drew {a w:World} {G:Option Nat} (h:a.grownBy w G):a.grownBy w.drew G:=⟨h.os,h.tape,h.output,h.size,h.block⟩
theorem aP {P:Program} {ops:Array Oper} {C:World→Prop} {h1:Act→Prop} {a:Act} {o:Oper} {rest:List Oper} {v:Value} (Q:Region.wanted o (yielded ops a.tmps) = true) (N:∀ w',C w'→o.quietAt P a C w' v)
    (h3:∀ hR:Act→Prop,(∀ a,wpQuiet P ops C h1 rest a→hR a)→hR (a.put o.dst v)):wpQuiet P ops C h1 (o :: rest) a :=
  wpQuiet_step fun hR hK=>by rw [if_pos Q]; exact ⟨v,N,h3 hR hK⟩
theorem cT {P:Program} {id:Nat} {h1:Exit→Act→World→Prop} {a:Act} {w W:World} {l:List Oper} (hm:P.follows .mixedOrders = true) (hB:Region.lexB .any l.toArray = true) (hg:W.grownBy w none)
    (h:wpQuiet P l.toArray (fun w'=>W.grownBy w' none) (fun a'=>∀ w',W.grownBy w' none→h1 .normal a' w') l a):(Code.region id l.toArray true).wp P h1 a w :=
  wp_region_quiet (C:=fun w'=>W.grownBy w' none) hm hB ⟨hg.os,hg.tape,hg.output,hg.size,hg.block⟩ (by simpa using h)
theorem zJ {a w:World} {b:Nat} (h:a.grownBy w (some b)) (o:Nat) (v:Value):a.grownBy (w.setCell (J b o) v) (some b) :=
  ⟨h.os,h.tape,h.output,by rw [World.setCell]; simpa using h.size,fun k hk xB=>(yS w _ _ k (fun e=>xB (by rw [e]))).trans (h.block k hk xB)⟩
theorem grow_eq (S:TS) (cu:Cur) (o:Od) (m:Nat) (hm:m = S.lc + 1) :
    ({ root:=({ S with lc:=m }.wr m cu).root,lc:=({ S with lc:=m }.wr m cu).lc,oc:=({ S with lc:=m }.wr m cu).oc,
       nd:=upd ({ S with lc:=m }.wr m cu).nd m { (({ S with lc:=m }.wr m cu).nd m) with side:=o.side,ticks:=o.ticks,qty:=0,count:=0 },qo:=({ S with lc:=m }.wr m cu).qo }:TS) = S.grow cu o.side o.ticks:=by
  subst hm
  cases cu <;> rfl
def LFI (s:Bool) (b:Nat) (S:TS) (t:Tr) (kk:Int) (W:World) (k:Nat) (p:Value) (wr:World):Prop :=
  ∃ c u,p = I b ((zS c).off)∧u.hs.length ≤ k∧Way s S t kk c u∧W.grownBy wr none
def LFEnd (s:Bool) (T:TypeId) (b:Nat) (S:TS) (t:Tr) (o:Od) (w:World) (h:Nat) (w':World):Prop :=
  ∃ (S':TS),TM T w' b S'∧w.grownBy w' (some b) ∧
    ((h ∈ t.hs∧(S.nd h).ticks = o.ticks∧S' = S) ∨ (∃ c u,Way s S t o.ticks c u∧S.rd (zS c) = 0∧h = S.lc + 1∧S' = S.grow (zS c) o.side o.ticks))
theorem cur_ok {s:Bool} {S:TS} {t:Tr} {k:Int} {c:Ctx} {u:Tr} (hi:TI s S t) (h:Way s S t k c u) (qn:S.lc < 20):(zS c).ok:=by
  have hm:∀ a ∈ cl c ++ cr c,a < 21:=fun a ha=>by
    have:=hi.range a (by rw [h.plug,cG]; simp at ha ⊢; rcases ha with h | h <;> simp [h])
    omega
  match c,hm with
  | [],_=>trivial
  | (true,a,r) :: c,hm=>exact hm a (by simp [cr])
  | (false,a,l) :: c,hm=>exact hm a (by simp [cl])
theorem tm_put {w:World} {b:Nat} {S:TS} {T:TypeId} (h:TM T w b S) (i:Nat) (hi:i < 21) (o:Od) :
    TM T (((((((w.setCell (J b (171 + i * 7)) (H o.id)).setCell (J b (171 + i * 7 + 1)) (H o.side)).setCell (J b (171 + i * 7 + 2)) (H o.ticks)).setCell (J b (171 + i * 7 + 3)) (H o.left)).setCell
      (J b (171 + i * 7 + 4)) (H o.life)).setCell (J b (171 + i * 7 + 5)) (yk o.tag)).setCell (J b (171 + i * 7 + 6)) (H 0)) b { S with qo:=upd S.qo i ⟨o,0⟩ }:=by
  have h0:=tm_qo h i 0 hi (by omega) (H o.id) { (TS.qo _ i) with od:={ (TS.qo _ i).od with id:=o.id } } rfl _ rfl
  have Q:=tm_qo h0 i 1 hi (by omega) (H o.side) { (TS.qo _ i) with od:={ (TS.qo _ i).od with side:=o.side } } rfl _ rfl
  have N:=tm_qo Q i 2 hi (by omega) (H o.ticks) { (TS.qo _ i) with od:={ (TS.qo _ i).od with ticks:=o.ticks } } rfl _ rfl
  have h3:=tm_qo N i 3 hi (by omega) (H o.left) { (TS.qo _ i) with od:={ (TS.qo _ i).od with left:=o.left } } rfl _ rfl
  have h4:=tm_qo h3 i 4 hi (by omega) (H o.life) { (TS.qo _ i) with od:={ (TS.qo _ i).od with life:=o.life } } rfl _ rfl
  have h5:=tm_qo h4 i 5 hi (by omega) (yk o.tag) { (TS.qo _ i) with od:={ (TS.qo _ i).od with tag:=o.tag } } rfl _ rfl
  have h6:=tm_qo h5 i 6 hi (by omega) (H 0) { (TS.qo _ i) with yg:=0 } rfl _ rfl
  simp only [bZ,zn] at h6
  exact h6
theorem gr_put {w:World} {b:Nat} (o:Od) (i:Nat) :
    w.grownBy (((((((w.setCell (J b (171 + i * 7)) (H o.id)).setCell (J b (171 + i * 7 + 1)) (H o.side)).setCell (J b (171 + i * 7 + 2)) (H o.ticks)).setCell (J b (171 + i * 7 + 3)) (H o.left)).setCell
      (J b (171 + i * 7 + 4)) (H o.life)).setCell (J b (171 + i * 7 + 5)) (yk o.tag)).setCell (J b (171 + i * 7 + 6)) (H 0)) (some b) :=
  zJ (zJ (zJ (zJ (zJ (zJ (zJ (yR _ _) _ _) _ _) _ _) _ _) _ _) _ _) _ _
theorem lf_lt {s:Bool} {T:TypeId} {b:Nat} {S:TS} {t:Tr} {o:Od} {w w':World} {h:Nat} (he:LFEnd s T b S t o w h w') (hi:TI s S t) (qn:S.lc < 20):(h:Int) < 21:=by
  obtain ⟨S',_,_,⟨Q,_,_⟩ | ⟨c,u,_,_,Q,_⟩⟩:=he
  · have:=(hi.range h Q).2; omega
  · omega
theorem link_eq0 (S:TS) (h m:Nat) (lf:Int) (hy:(S.nd h).yo = 0) :
    ({ S with nd:=upd S.nd h { (S.nd h) with qty:=(S.nd h).qty + lf,count:=(S.nd h).count + 1,el:=m,yo:=m } }:TS) = S.link h m lf:=by
  simp [TS.link,hy]
theorem link_eq1 (S:TS) (h m:Nat) (lf:Int) (hy:¬ (S.nd h).yo = 0) :
    ({ S with nd:=upd S.nd h { (S.nd h) with qty:=(S.nd h).qty + lf,count:=(S.nd h).count + 1,yo:=m },qo:=upd S.qo (S.nd h).yo { S.qo (S.nd h).yo with yg:=m } }:TS) = S.link h m lf:=by
  simp [TS.link,hy]
theorem bR {a w w':World} {G:Option Nat} (h:a.grownBy w G) (Q:w'.os = w.os) (N:w'.tape = w.tape) (h3:w'.output = w.output) (h4:w'.heap = w.heap):a.grownBy w' G :=
  ⟨Q.trans h.os,N.trans h.tape,h3.trans h.output,by rw [h4]; exact h.size,fun k hk xB=>by rw [h4]; exact h.block k hk xB⟩
def aG (T:TypeId) (s:Bool) (w:World) (b:Nat) (sd:Int) (seq:List Od):Prop:=∃ S t,TM T w b S∧TI s S t∧QI S t sd seq∧S.lc ≤ seq.length
theorem tm_zero (w:World) (ho:Array Value) (T:TypeId) (h0:ho[0]? = some (H 0)) (Q:ho[1]? = some (H 0)) (N:∀ i,i < 21→(ho.toList.drop (2 + i * 8)).take 8 = zNd.vs) (h3:ho[170]? = some (H 0)) (h4:∀ i,i < 21→(ho.toList.drop (171 + i * 7)).take 7 = zQo.vs) :
    TM T (w.alloc (Obj.cells ho T)) w.heap.size zTS:=by
  have hh:=heap_alloc_new w (Obj.cells ho T)
  have xq:∀ o,(w.alloc (Obj.cells ho T)).cell? (yq w o) = ho[o]?:=fun o=>cell_of_row _ w.heap.size o ho T (0,0) hh
  have uV:∀ (o n:Nat) (cs:List Value),(ho.toList.drop o).take n = cs→(w.alloc (Obj.cells ho T)).rangeAt w.heap.size o cs:=fun o n cs om j v hv=>by
    rw [xq,← hv,← om,List.getElem?_take,List.getElem?_drop,Array.getElem?_toList]
    rw [← om,List.getElem?_take] at hv
    split
    · rfl
    · next R=>rw [if_neg R] at hv; cases hv
  exact ⟨(xq 0).trans h0,(xq 1).trans Q,fun i hi=>uV _ 8 _ (N i hi),(xq 170).trans h3,fun i hi=>uV _ 7 _ (h4 i hi),fun o=>by simp only [World.frozen?,hh]; simp,ho,hh⟩
theorem zE {T:TypeId} {s:Bool} {w w':World} {b:Nat} {sd:Int} {seq:List Od} (h:aG T s w b sd seq) (L:w'.heap[b]? = w.heap[b]?):aG T s w' b sd seq:=by
  obtain ⟨S,t,Q,N⟩:=h
  exact ⟨S,t,aW Q L,N⟩
theorem aX {T:TypeId} {s:Bool} {w:World} {b:Nat} {sd:Int} {seq:List Od} (h:aG T s w b sd seq):b < w.heap.size:=by
  obtain ⟨S,t,Q,_⟩:=h; exact tm_lt Q
theorem sumL_bound:∀ l:List Od,(∀ o ∈ l,0 ≤ o.left∧o.left ≤ 1000000)→0 ≤ sumQ l∧sumQ l ≤ 1000000 * l.length
  | [],_=>by simp [sumQ]
  | a :: l,h=>by
    have Q:=h a (by simp)
    have N:=sumL_bound l (fun o Z=>h o (by simp [Z]))
    simp only [sumQ,List.length_cons]
    omega
def insT (s:Bool) (k:Int):List Int→List Int
 | []=>[k]
 | a :: r=>if bt s k a then k :: a :: r else if k = a then a :: r else a :: insT s k r
theorem insT_mem (s:Bool) (k x:Int):∀ T:List Int,x ∈ insT s k T ↔ x = k ∨ x ∈ T
 | []=>by simp [insT]
 | a :: r=>by
  rw [insT]
  split
  ·simp
  ·split
   ·next h=>subst h; simp
   ·simp [insT_mem s k x r]; constructor
    ·rintro (h | h | h) <;> simp [h]
    ·rintro (h | h | h) <;> simp [h]
theorem insT_sorted (s:Bool) (k:Int):∀ T:List Int,T.Pairwise (bt s)→(insT s k T).Pairwise (bt s)
 | [],_=>by simp [insT]
 | a :: r,h=>by
  obtain ⟨p1,p2⟩:=List.pairwise_cons.1 h
  rw [insT]
  split
  ·next hk=>exact List.pairwise_cons.2 ⟨fun x hx=>by
    rcases List.mem_cons.1 hx with rfl | hx
    ·exact hk
    ·exact bt_trans hk (p1 x hx),h⟩
  ·next hk =>
   split
   ·exact h
   ·next xB =>
    refine List.pairwise_cons.2 ⟨fun x hx=>?_,insT_sorted s k r p2⟩
    rcases (insT_mem s k x r).1 hx with rfl | hx
    ·rcases bt_total s x a with Q | Q | Q
     ·exact absurd Q hk
     ·exact absurd Q xB
     ·exact Q
    ·exact p1 x hx
def tks (s:Bool):List Od→List Int
 | []=>[]
 | o :: r=>insT s o.ticks (tks s r)
theorem cQ (s:Bool):∀ seq:List Od,IsT s seq (tks s seq)
 | []=>⟨by simp [tks],by simp [tks]⟩
 | o :: r=>by
  have ih:=cQ s r
  refine ⟨insT_sorted s _ _ ih.sorted,fun k=>?_⟩
  rw [tks,insT_mem,ih.mem]
  constructor
  ·rintro (rfl | ⟨o',Q,N⟩)
   ·exact ⟨o,by simp,rfl⟩
   ·exact ⟨o',by simp [Q],N⟩
  ·rintro ⟨o',Q,N⟩
   rcases List.mem_cons.1 Q with rfl | Q
   ·exact .inl N.symm
   ·exact .inr ⟨o',Q,N⟩
theorem dZ {s:Bool}:∀ {xm B:List Int},xm.Pairwise (bt s)→B.Pairwise (bt s)→(∀ k,k ∈ xm ↔ k ∈ B)→xm = B
 | [],B,_,_,h=>by
  cases B with
  | nil=>rfl
  | cons b r=>exact absurd ((h b).2 (by simp)) (by simp)
 | a :: xm,[],_,_,h=>absurd ((h a).1 (by simp)) (by simp)
 | a :: xm,b :: B,hA,hB,h=>by
  obtain ⟨p1,p2⟩:=List.pairwise_cons.1 hA
  obtain ⟨q1,q2⟩:=List.pairwise_cons.1 hB
  have hab:a = b:=by
   rcases List.mem_cons.1 ((h a).1 (by simp)) with e | e
   ·exact e
   ·rcases List.mem_cons.1 ((h b).2 (by simp)) with e' | e'
    ·exact e'.symm
    ·exact absurd (p1 b e') (bt_asymm (q1 a e))
  subst hab
  rw [dZ p2 q2 fun k=>⟨fun hk=>?_,fun hk=>?_⟩]
  ·rcases List.mem_cons.1 ((h k).1 (by simp [hk])) with e | e
   ·subst e; exact absurd (p1 _ hk) (bt_irr _ _)
   ·exact e
  ·rcases List.mem_cons.1 ((h k).2 (by simp [hk])) with e | e
   ·subst e; exact absurd (q1 _ hk) (bt_irr _ _)
   ·exact e
theorem isT_unique {s:Bool} {seq:List Od} {xm:List Int} (hA:IsT s seq xm):xm = tks s seq :=
 dZ hA.sorted (cQ s seq).sorted fun k=>(hA.mem k).trans ((cQ s seq).mem k).symm
structure Lv where
 side:Int
 ticks:Int
 qty:Int
 count:Int
def Lv.vs (n:Lv):List Value:=[H n.side,H n.ticks,H n.qty,H n.count]
theorem Lv.len (o:Lv):o.vs.length = 4:=rfl
def lvAt (sd:Int) (seq:List Od) (k:Int):Lv:=⟨sd,k,sumQ (atK seq k),(atK seq k).length⟩
def aE (s:Bool) (sd:Int) (seq:List Od):List Lv:=(tks s seq).map (lvAt sd seq)
def quOf (s:Bool) (seq:List Od):List Od:=(tks s seq).flatMap (atK seq)
def Nd.lv (n:Nd):Lv:=⟨n.side,n.ticks,n.qty,n.count⟩
theorem dJ {s:Bool} {S:TS} {t:Tr} {sd:Int} {seq:List Od} (hi:TI s S t) (hq:QI S t sd seq):(t.hs.map fun h=>(S.nd h).lv) = aE s sd seq:=by
 rw [aE,← isT_unique (isT_of hi hq),List.map_map]
 refine List.map_congr_left fun h hh=>?_
 have hQ:=hq.q h hh
 show Lv.mk _ _ _ _ = Lv.mk _ _ _ _
 rw [hQ.side,hQ.qty,hQ.cnt]
theorem tree_orders {s:Bool} {S:TS} {t:Tr} {sd:Int} {seq:List Od} (hi:TI s S t) (hq:QI S t sd seq):(t.hs.flatMap fun h=>(qs seq (S.nd h).ticks).map fun i=>(S.qo i).od) = quOf s seq:=by
 rw [quOf,← isT_unique (isT_of hi hq),List.flatMap_map]
 rw [List.flatMap_def,List.flatMap_def]
 congr 1
 refine List.map_congr_left fun h hh=>?_
 exact qsF_map _ _ seq 1 (fun i o Z=>hq.od i o Z)
def zOdv:Value:=.agg (yv 0 0 0 0 0 ⟨#[]⟩).toArray
def frOf (q:List Od):Value:=match q.head? with
 | some o=>.tuple #[o.val,.bool true]
 | none=>.tuple #[zOdv,.bool false]
end Go.Proofs.YtdliebbfcmdmaaaGreat
