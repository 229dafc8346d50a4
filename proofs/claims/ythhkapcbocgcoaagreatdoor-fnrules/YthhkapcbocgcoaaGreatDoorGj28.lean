/-
  The end of a day, by the engine: proved by walking the method.
-/
import Derived.Test.YthhkapcbocgcoaaGreatDoorGj27
set_option linter.unusedVariables false
set_option maxHeartbeats 6400000
set_option maxRecDepth 100000
namespace Go.Proofs.YthhkapcbocgcoaaGreatDoor
open Go.RowKit
def dyB (o:Od):Bool:=o.life == 1
def expE (o:Od):Ev:=⟨9,zCm,o.id,0,o.left,0,0⟩
theorem take_dy {l:List Od} {j:Nat} {o:Od} (h:l[j]? = some o) (hd:o.life = 1):(l.take (j + 1)).filter dyB = (l.take j).filter dyB ++ [o]:=by
 rw [List.take_add_one,h,List.filter_append]
 simp [dyB,hd]
theorem take_no {l:List Od} {j:Nat} {o:Od} (h:l[j]? = some o) (hd:o.life ≠ 1):(l.take (j + 1)).filter dyB = (l.take j).filter dyB:=by
 rw [List.take_add_one,h,List.filter_append]
 simp [dyB,hd]

theorem gqY {x:List Bool} {i j:Nat} (h:i ≠ j):(x.set i true)[j]? = x[j]?:=yX h
theorem gqsY {x:List Bool} {i:Nat} (h:x[i]? = some false):(x.set i true)[i]? = some true:=List.getElem?_set_self (yH.1 h).1
def ancS (l:List Oper) (s:List Nat):List Nat:=s ++ s.flatMap fun i=>match l[i]? with
 | some o=>(o.after.toList.filter fun e=>Region.binds .any e).map fun e=>e.on
 | none=>[]
def ancN (l:List Oper):Nat→List Nat→List Nat
 | 0,s=>s
 | n + 1,s=>ancN l n (ancS l s).eraseDups
theorem ancS_true {l:List Oper} {x:List Bool} (hc:Closed l x) {s:List Nat} (hs:∀ i ∈ s,x[i]? = some true):∀ i ∈ ancS l s,x[i]? = some true:=by
 intro i hi
 rcases List.mem_append.1 hi with h | h
 ·exact hs i h
 ·obtain ⟨k,E,hm⟩:=List.mem_flatMap.1 h
  split at hm
  ·next o Y =>
   obtain ⟨e,he,rfl⟩:=List.mem_map.1 hm
   obtain ⟨he1,he2⟩:=List.mem_filter.1 he
   exact hc k o Y (hs k E) e (by simpa using he1) he2
  ·simp at hm
theorem ancN_true {l:List Oper} {x:List Bool} (hc:Closed l x):∀ (n:Nat) (s:List Nat),(∀ i ∈ s,x[i]? = some true)→∀ i ∈ ancN l n s,x[i]? = some true
 | 0,s,hs=>hs
 | n + 1,s,hs=>ancN_true hc n _ (fun i hi=>ancS_true hc hs i (List.mem_eraseDups.1 hi))
theorem ch {l:List Oper} {x:List Bool} (hc:Closed l x) (d i n:Nat) (hB:(ancN l d [n]).contains i = true) (hx:x.length = l.length) (hn:n < l.length) (hi:x[i]? = some false):x[n]? = some false:=by
 rcases dm hx hn with h | h
 ·exact h
 ·have:=ancN_true hc d [n] (by simpa using h) i (by simpa using hB)
  rw [hi] at this; cases this
structure RY (C:World→Nat→Value→Prop) (n:Nat) (h1:(Nat→Value)→World→Prop) (base:World) (x:List Bool) (f:Nat→Value) (W:World):Prop where
 b:x[n]? = some false→Below base.heap.size base W
 c:x[n]? = some false→∀ j,x[j]? = some true→C W j (f j)
 m:x[n]? = some true→h1 f W
section
variable {C:World→Nat→Value→Prop} {n:Nat} {h1:(Nat→Value)→World→Prop} {base W W':World} {x:List Bool} {f:Nat→Value}
theorem ry_start {k:Nat} {f:Nat→Value} (E:n < k):RY C n h1 base (List.replicate k false) f { base with drawn:=base.drawn + 1 } :=
 ⟨fun _=>⟨rfl,rfl,rfl,Nat.le_refl _,fun _ _=>rfl⟩,fun _ j hj=>by rw [yJ] at hj; split at hj <;> simp at hj,fun h=>by rw [yJ] at h; split at h <;> simp at h⟩
theorem cM (h:RY C n h1 base x f W) (i:Nat) (v:Value) (hn:x[n]? = some false) (oh:i ≠ n) (hv:C W i v):RY C n h1 base (x.set i true) (upd f i v) W:=by
 refine ⟨fun _=>h.b hn,fun _ j hj=>?_,fun e=>by rw [gqY oh,hn] at e; cases e⟩
 by_cases hji:j = i
 ·subst hji; rw [zt]; exact hv
 ·rw [zq _ _ hji]; rw [gqY (fun e=>hji e.symm)] at hj; exact h.c hn j hj
theorem ry_grow (hm:∀ W W' j v,yn W W'→C W j v→C W' j v) (h:RY C n h1 base x f W) (hn:x[n]? = some false) (A:yn W W'):RY C n h1 base x f W' :=
 ⟨fun _=>(h.b hn).trans (A.mono (h.b hn).size),fun _ j hj=>hm _ _ _ _ A (h.c hn j hj),fun e=>by rw [hn] at e; cases e⟩
theorem ry_write (h:RY C n h1 base x f W) (hn:x[n]? = some false) (v:Value) (hq:h1 (upd f n v) W'):RY C n h1 base (x.set n true) (upd f n v) W' :=
 ⟨fun e=>(by rw [gqsY hn] at e; cases e),fun e=>(by rw [gqsY hn] at e; cases e),fun _=>hq⟩
theorem ry_after (h:RY C n h1 base x f W) (i:Nat) (v:Value) (hn:x[n]? = some true) (oh:i ≠ n) (hq:h1 f W→h1 (upd f i v) W):RY C n h1 base (x.set i true) (upd f i v) W :=
 ⟨fun e=>(by rw [gqY oh,hn] at e; cases e),fun e=>(by rw [gqY oh,hn] at e; cases e),fun _=>hq (h.m hn)⟩
end
def KB (R:Nat) (W W':World):Prop:=KeptBut R W.heap.size W W'
theorem kb_trans {R:Nat} {W W1 W2:World} (Q:KB R W W1) (D:KB R W1 W2):KB R W W2 :=
 ⟨D.os.trans Q.os,D.tape.trans Q.tape,D.output.trans Q.output,yO Q.size D.size,fun k E hm=>(D.block k (yK E Q.size) hm).trans (Q.block k E hm)⟩
theorem kb_below {R:Nat} {W W':World} (h:yn W W'):KB R W W':=⟨h.os,h.tape,h.output,h.size,fun k E _=>h.block k E⟩
theorem kb_setCells (R o:Nat) (vs:List Value) (W:World):KB R W (W.setCells R o vs) :=
 ⟨os_setCells _ _ _ _,tape_setCells _ _ _ _,gV _ _ _ _,by rw [eA]; exact Nat.le_refl _,fun k _ hm=>heap_setCells _ _ hm _ _ _⟩
theorem kb_row {R B e sz n:Nat} {v:Value} {xs:List Value} {W W':World} (h:W.ownsRow B e sz v n xs) (A:KB R W W') (F:R < B):W'.ownsRow B e sz v n xs:=by
 refine ⟨h.1,?_⟩
 rcases h.2 with hn | ⟨g,cap,xz,rfl,hg,hgg,rest⟩
 ·exact .inl hn
 ·exact .inr ⟨g,cap,xz,rfl,hg,(A.block g (yZ.1 hgg).1 (by omega)).trans hgg,rest⟩
theorem kb_cell {R:Nat} {W W':World} (A:KB R W W') {p:Addr} {u:Value} (h:W.cell? p = some u) (hp:p.block ≠ R):W'.cell? p = some u :=
 (yR (a:=p) (A.block p.block (yL W _ h) hp)).trans h
theorem kb_range {R:Nat} {W W':World} (A:KB R W W') {b o:Nat} {cs:List Value} (h:W.rangeAt b o cs) (hp:b ≠ R):W'.rangeAt b o cs:=fun j u hj=>kb_cell A (h j u hj) hp
structure RX (C:World→Nat→Value→Prop) (R m st:Nat) (Rv:(Nat→Value)→List Value) (base:World) (x:List Bool) (f:Nat→Value) (W:World):Prop where
 k:KB R base W
 lt:R < base.heap.size
 t:W.there R 0 m
 c:∀ j,x[j]? = some true→C W j (f j)
 r:x[st]? = some true→W.rangeAt R 0 (Rv f)
def RXA (hR:(Nat→Value)→Act) (C:World→Nat→Value→Prop) (R m st:Nat) (Rv:(Nat→Value)→List Value) (base:World) (x:List Bool) (hb:Act) (W:World):Prop:=∃ f,hb = hR f∧RX C R m st Rv base x f W
section
variable {C:World→Nat→Value→Prop} {R m st:Nat} {Rv:(Nat→Value)→List Value} {base W W':World} {x:List Bool} {f:Nat→Value}
theorem rx_start {k:Nat} {f:Nat→Value} (hl:R < base.heap.size) (ht:base.there R 0 m):RX C R m st Rv base (List.replicate k false) f { base with drawn:=base.drawn + 1 } :=
 ⟨⟨rfl,rfl,rfl,Nat.le_refl _,fun _ _ _=>rfl⟩,hl,ht,fun j hj=>by rw [yJ] at hj; split at hj <;> simp at hj,fun h=>by rw [yJ] at h; split at h <;> simp at h⟩
theorem bW (h:RX C R m st Rv base x f W) (i:Nat) (v:Value) (his:i ≠ st) (hr:x[st]? = some true→Rv (upd f i v) = Rv f) (hv:C W i v):RX C R m st Rv base (x.set i true) (upd f i v) W:=by
 refine ⟨h.k,h.lt,h.t,fun j hj=>?_,fun e=>?_⟩
 ·by_cases hji:j = i
  ·subst hji; rw [zt]; exact hv
  ·rw [zq _ _ hji]; rw [gq (fun e=>hji e.symm)] at hj; exact h.c j hj
 ·rw [gq his] at e; rw [hr e]; exact h.r e
theorem rx_grow (hm:∀ W W' j v,KB R W W'→C W j v→C W' j v) (h:RX C R m st Rv base x f W) (A:yn W W'):RX C R m st Rv base x f W' :=
 ⟨kb_trans h.k (kb_below A),h.lt,zk h.t A (yK h.lt h.k.size),fun j hj=>hm _ _ _ _ (kb_below A) (h.c j hj),fun e=>zc (h.r e) A (yK h.lt h.k.size)⟩
theorem rx_store (hm:∀ W W' j v,KB R W W'→C W j v→C W' j v) (h:RX C R m st Rv base x f W) (hx:x[st]? = some false) (hl:(Rv f).length = m) (hC:∀ W v,C W st v):RX C R m st Rv base (x.set st true) f (W.setCells R 0 (Rv f)):=by
 refine ⟨kb_trans h.k (kb_setCells _ _ _ _),h.lt,xc h.t _ _ _,fun j hj=>?_,fun _=>yY W R 0 _ (fun j hj=>h.t j (by omega))⟩
 by_cases hji:j = st
 ·subst hji; exact hC _ _
 ·rw [gq (fun e=>hji e.symm)] at hj; exact hm _ _ _ _ (kb_setCells _ _ _ _) (h.c j hj)
end
def accL (c:Cm) (next:Int) (hR:List Od × Int × List Ev):List Od:=if 0 < hR.2.1∧bR c.t = true then hR.1 ++ [⟨next,c.s,tk c.p,hR.2.1,c.l,c.g⟩] else hR.1
def accE (c:Cm) (next:Int) (hR:List Od × Int × List Ev):List Ev:=⟨1,⟨1,c.s,c.t,c.l,c.q,0,c.p,c.g⟩,next,0,0,0,0⟩ :: hR.2.2 ++ (if 0 < hR.2.1 then [⟨if bR c.t = true then 4 else 5,zCm,next,0,hR.2.1,0,0⟩] else [])
theorem zR {B C e sz n:Nat} {v:Value} {xs:List Value} {W:World} (h:W.ownsRow B e sz v n xs) (hC:C ≤ B):W.ownsRow C e sz v n xs:=by
 refine ⟨h.1,?_⟩
 rcases h.2 with hn | ⟨g,cap,xz,rfl,hg,rest⟩
 ·exact .inl hn
 ·exact .inr ⟨g,cap,xz,rfl,yO hC hg,rest⟩
theorem matL_few {c:Cm} {id:Int}:∀ (n:Nat) (l:List Od) (left:Int) (ts:List Ev),(matL c id n l left ts).2.2.length ≤ ts.length + n
 | 0,_,_,_=>Nat.le_refl _
 | n + 1,l,left,ts=>by
  rw [matL]
  split
  ·split
   ·simp
   ·split
    ·refine yO (matL_few n _ _ _) ?_
     rw [yQ]; simp; omega
    ·simp
  ·simp
theorem cT {B e sz n:Nat} {v:Value} {xs:List Value} {W:World} (h:W.ownsRow B e sz v n xs):∃ a c,v = .slice a n c:=by
 rcases h.2 with ⟨e,e2⟩ | ⟨g,cap,xz,e,_⟩
 ·exact ⟨none,0,by rw [e,e2]⟩
 ·exact ⟨_,_,e⟩

def stN (next:Int) (l:List Od) (c:Cm):Int:=if refR next l c = 0∧c.k = 1 then next + 1 else next
def stL (next:Int) (l:List Od) (c:Cm):List Od :=
 if refR next l c = 0 then
  if c.k = 1 then accL c next (matL c next 21 l c.q [])
  else if c.k = 2 then (match l[(plc l c.i).toNat]? with | some o=>bQ l (plc l c.i).toNat o o.left | none=>l)
  else if c.k = 3 then (match l[(plc l c.i).toNat]? with | some o=>l.set (plc l c.i).toNat { o with left:=c.q } | none=>l)
  else l.filter ndy
 else l
def stE (next:Int) (l:List Od) (c:Cm):List Ev :=
 if refR next l c = 0 then
  if c.k = 1 then accE c next (matL c next 21 l c.q [])
  else if c.k = 2 then (match l[(plc l c.i).toNat]? with | some o=>[⟨6,zCm,c.i,0,o.left,0,0⟩] | none=>[])
  else if c.k = 3 then [⟨7,zCm,c.i,0,c.q,0,0⟩]
  else ⟨8,zCm,0,0,((l.filter dyB).length:Nat),0,0⟩ :: (l.filter dyB).map expE
 else [⟨2,⟨c.k,c.s,c.t,c.l,c.q,c.i,c.p,cutB c.g⟩,0,0,0,0,refR next l c⟩]
theorem fK {next:Int} {l:List Od} {c:Cm} (h:refR next l c = 0):c.k = 1 ∨ c.k = 2 ∨ c.k = 3 ∨ c.k = 4:=by
 rw [refR] at h
 split at h
 ·omega
 ·split at h
  ·omega
  ·split at h
   ·omega
   ·split at h
    ·omega
    ·cases h
theorem ref_new {next:Int} {l:List Od} {c:Cm} (h:refR next l c = 0) (E:c.k = 1):newR next l c = 0:=by
 rw [refR,if_pos E] at h
 split at h
 ·exact h
 ·cases h
theorem fg {next:Int} {l:List Od} {c:Cm} (h:refR next l c = 0) (E:c.k = 1):1 ≤ c.q∧c.q ≤ 1000000:=by
 have h:=ref_new h E
 rw [newR] at h
 repeat (split at h; (· cases h))
 rename_i h7 _
 simp [betB] at h7
 omega
theorem ref_id {next:Int} {l:List Od} {c:Cm} (h:refR next l c = 0) (E:c.k = 2 ∨ c.k = 3):∃ (k:Nat) (o:Od),plc l c.i = k∧l[k]? = some o:=by
 rcases gh l c.i with Q | Q
 ·exfalso
  rw [refR] at h
  rcases E with E | E
  ·rw [if_neg (by omega),if_pos E] at h
   split at h
   ·simp [idR,Q] at h
   ·cases h
  ·rw [if_neg (by omega),if_neg (by omega),if_pos E] at h
   split at h
   ·rw [redR] at h
    split at h
    ·simp [Q] at h
    ·cases h
   ·cases h
 ·exact Q
theorem hit_side {l:List Od} {k:Nat} {o:Od} {q:Int} (E:l[k]? = some o) (hs:∀ x ∈ l,x.side = 1 ∨ x.side = 2):∀ x ∈ bQ l k o q,x.side = 1 ∨ x.side = 2:=by
 intro x hx
 unfold bQ at hx
 split at hx
 ·rcases List.mem_append.1 hx with h | h
  ·exact hs x (List.mem_of_mem_take h)
  ·exact hs x (List.mem_of_mem_drop h)
 ·rcases List.mem_or_eq_of_mem_set hx with h | rfl
  ·exact hs x h
  ·exact hs o (yP E)
theorem matL_side {c:Cm} {id:Int}:∀ (n:Nat) (l:List Od) (left:Int) (ts:List Ev),cy l→GoodL l→0 ≤ left→left ≤ 1000000→(∀ x ∈ l,x.side = 1 ∨ x.side = 2)→∀ x ∈ (matL c id n l left ts).1,x.side = 1 ∨ x.side = 2
 | 0,l,left,ts,_,_,_,_,hs=>hs
 | n + 1,l,left,ts,hr,hg,h0,Q,hs=>by
  rw [matL]
  by_cases hl:0 < left
  ·rw [if_pos hl]
   cases hf:bT l (othS c.s) with
   | none=>exact hs
   | some o =>
    simp only
    by_cases hm:cj c o = true
    ·rw [if_pos hm]
     obtain ⟨uC,_⟩:=ek hf
     obtain ⟨k,E⟩:=List.getElem?_of_mem uC
     have Y:=hg.left o uC
     rw [dN hr E,Int.toNat_natCast]
     have vh:=(dP hg E (qty:=min left o.left) (by omega) (by omega)).1
     exact matL_side n _ _ _ vh.rise vh (by omega) (by omega) (hit_side E hs)
    ·rw [if_neg hm]; exact hs
  ·rw [if_neg hl]; exact hs
def fullS (l:List Od) (t:Od):Bool:=decide (l.length = 20) || decide (8 < nlev (l ++ [t]))
theorem full_eq {l:List Od} {t:Od} (hl:l.length ≤ 20) (hs:∀ x ∈ l ++ [t],x.side = 1 ∨ x.side = 2):cY (l ++ [t]) = fullS l t:=by
 unfold cY fullS
 have hn:=nlev_eq hs (cV true _) (cV false _)
 by_cases h:l.length = 20
 ·rw [if_pos (by simp; omega)]; simp [h]
 ·rw [if_neg (by simp; omega),bX,bX,List.length_map,List.length_map,hn]
  simp only [h,decide_false,Bool.false_or]
  rw [Bool.eq_iff_iff]
  simp only [xg]
  omega
def matS (next:Int) (c:Cm) (hR:List Od × Int × List Ev):Int :=
 if c.t = 5∧0 < hR.2.2.length then 11 else if c.t = 4∧0 < hR.2.1 then 12 else if next = 1000000 then 13
 else if bR c.t = true then (if 0 < hR.2.1 then (if hR.1.length = 20 then 13 else if 8 < nlev (hR.1 ++ [⟨next,c.s,tkS c.p,hR.2.1,c.l,c.g⟩]) then 13 else 0) else 0) else 0
theorem matS_eq {next:Int} {c:Cm} {l:List Od} (hg:GoodL l) (ui:∀ x ∈ l,x.side = 1 ∨ x.side = 2) (hs:betB c.s 1 2 = true) (hp:prcB c = true) (hq:betB c.q 1 1000000 = true):matS next c (matL c next 21 l c.q []) = matR next c (matL c next 21 l c.q []):=by
 have hq':1 ≤ c.q∧c.q ≤ 1000000:=by simpa [betB] using hq
 have hgood:=eF (c:=c) (id:=next) 21 l c.q [] hg (by omega) (by omega)
 have hside:=matL_side (c:=c) (id:=next) 21 l c.q [] hg.rise hg (by omega) (by omega) ui
 generalize matL c next 21 l c.q [] = hR at *
 unfold matS matR
 by_cases Q:c.t = 5∧0 < hR.2.2.length
 ·rw [if_pos Q,if_pos Q]
 rw [if_neg Q,if_neg Q]
 by_cases D:c.t = 4∧0 < hR.2.1
 ·rw [if_pos D,if_pos D]
 rw [if_neg D,if_neg D]
 by_cases X:next = 1000000
 ·rw [if_pos X,if_pos X]
 rw [if_neg X,if_neg X]
 by_cases h4:bR c.t = true
 ·by_cases h5:0 < hR.2.1
  ·rw [if_pos h4,if_pos h5,if_pos (show bR c.t = true∧0 < hR.2.1 from ⟨h4,h5⟩)]
   have oU:c.t ≠ 2:=by
    intro e; rw [e] at h4; exact absurd h4 (by decide)
   have un:tkOk c.p = true:=by unfold prcB at hp; rw [if_neg oU] at hp; exact hp
   have Y:({ ordO c next with left:=hR.2.1 }:Od) = ⟨next,c.s,tkS c.p,hR.2.1,c.l,c.g⟩:=by
    unfold ordO; rw [tkS_ok un]
   rw [Y]
   have hfe:=full_eq (l:=hR.1) (t:=⟨next,c.s,tkS c.p,hR.2.1,c.l,c.g⟩) hgood.1.len (fun x hx=>by
    rcases List.mem_append.1 hx with h | h
    ·exact hside x h
    ·simp at h; subst h; exact side_of hs)
   rw [hfe]
   unfold fullS
   by_cases h6:hR.1.length = 20
   ·simp [h6]
   ·by_cases h7:8 < nlev (hR.1 ++ [⟨next,c.s,tkS c.p,hR.2.1,c.l,c.g⟩])
    ·simp [h6,h7]
    ·simp [h6,h7]
  ·rw [if_pos h4,if_neg h5,if_neg (by simp [h5])]
 ·rw [if_neg h4,if_neg (by simp [h4])]
def refS (next:Int) (l:List Od) (c:Cm):Int :=
 if betB c.k 1 4 = false then 1 else if cx c = false then 2 else if c.k = 1 then newR next l c else if c.k = 4 then 0
 else if c.k = 3∧betB c.q 1 1000000 = false then 7 else if plc l c.i < 0 then 9
 else match l[(plc l c.i).toNat]? with | some o=>if c.k = 3∧o.left ≤ c.q then 10 else 0 | none=>0
theorem same_form {k s t l q i:Int} {p:Nat} {g:ByteArray} (E:k = 1 ∨ k = 2 ∨ k = 3 ∨ k = 4):cx ⟨k,s,t,l,q,i,p,g⟩ = (if k = 1 then bS ⟨1,s,t,l,q,0,p,g⟩ ⟨k,s,t,l,q,i,p,g⟩ else if k = 2 then bS ⟨2,0,0,0,0,i,0,⟨#[]⟩⟩ ⟨k,s,t,l,q,i,p,g⟩ else if k = 3 then bS ⟨3,0,0,0,q,i,0,⟨#[]⟩⟩ ⟨k,s,t,l,q,i,p,g⟩ else bS ⟨4,0,0,0,0,0,0,⟨#[]⟩⟩ ⟨k,s,t,l,q,i,p,g⟩):=by
 have hz:fbit 0 = 0:=by decide
 have he:(⟨#[]⟩:ByteArray).toList = []:=by unfold ByteArray.toList; rw [ByteArray.toList.loop]; rfl
 have hg:∀ x:List UInt8,decide ([] = x) = x.isEmpty:=by intro x; cases x <;> rfl
 rw [Bool.eq_iff_iff]
 rcases E with rfl | rfl | rfl | rfl
 ·simp [cx,bS]; omega
 ·simp [cx,bS,hz,he]
  constructor
  ·rintro ⟨⟨Q,D,X,h4,h5⟩,h6⟩
   exact ⟨Q.symm,D.symm,X.symm,h6.symm,h4.symm,h5⟩
  ·rintro ⟨Q,D,X,h6,h4,h5⟩
   exact ⟨⟨Q.symm,D.symm,X.symm,h4.symm,h5⟩,h6.symm⟩
 ·simp [cx,bS,hz,he]
  constructor
  ·rintro ⟨Q,D,X,h4,h5⟩
   exact ⟨Q.symm,D.symm,X.symm,h4.symm,h5⟩
  ·rintro ⟨Q,D,X,h4,h5⟩
   exact ⟨Q.symm,D.symm,X.symm,h4.symm,h5⟩
 ·simp [cx,bS,hz,he]
  constructor
  ·rintro ⟨⟨Q,D,X,h4,h5⟩,h6,h7⟩
   exact ⟨Q.symm,D.symm,X.symm,h6.symm,h7.symm,h4.symm,h5⟩
  ·rintro ⟨Q,D,X,h6,h7,h4,h5⟩
   exact ⟨⟨Q.symm,D.symm,X.symm,h4.symm,h5⟩,h6.symm,h7.symm⟩
theorem ref_eq (next:Int) (l:List Od) (c:Cm):refS next l c = refR next l c:=by
 obtain ⟨k,s,t,li,q,i,p,g⟩:=c
 by_cases E:k = 1 ∨ k = 2 ∨ k = 3 ∨ k = 4
 ·have A:betB k 1 4 = true:=by simp [betB]; omega
  have hf:=same_form (s:=s) (t:=t) (l:=li) (q:=q) (i:=i) (p:=p) (g:=g) E
  unfold refS refR
  simp only [A,hf]
  rcases E with rfl | rfl | rfl | rfl
  ·simp
   cases bS ⟨1,s,t,li,q,0,p,g⟩ ⟨1,s,t,li,q,i,p,g⟩ <;> simp
  ·simp
   cases bS ⟨2,0,0,0,0,i,0,⟨#[]⟩⟩ ⟨2,s,t,li,q,i,p,g⟩ <;> simp [idR]
   rcases gh l i with e | ⟨k,o,e,Y⟩
   ·rw [e]; rfl
   ·rw [e]; simp [Y]
  ·simp
   cases bS ⟨3,0,0,0,q,i,0,⟨#[]⟩⟩ ⟨3,s,t,li,q,i,p,g⟩ <;> simp [redR]
   cases betB q 1 1000000 <;> simp
   rcases gh l i with e | ⟨k,o,e,Y⟩
   ·rw [e]; rfl
   ·rw [e]; simp [Y]
  ·simp
   cases bS ⟨4,0,0,0,0,0,0,⟨#[]⟩⟩ ⟨4,s,t,li,q,i,p,g⟩ <;> simp
 ·have A:betB k 1 4 = false:=by
   cases h:betB k 1 4
   ·rfl
   ·simp [betB] at h; omega
  unfold refS refR
  simp only [A]
  simp
  rw [if_neg (by omega),if_neg (by omega),if_neg (by omega),if_neg (by omega)]


structure RunSt where
 n:Int
 l:List Od
 g:List (List Ev)
 t:Tot
def tot0:Tot:=⟨0,0,0,0,0,0,0,0⟩
def rstep (s:RunSt) (c:Cm):RunSt:=⟨stN s.n s.l c,stL s.n s.l c,s.g ++ [stE s.n s.l c],wgT s.t (stE s.n s.l c)⟩
def runS (cs:List Cm):RunSt:=cs.foldl rstep ⟨1,[],[],tot0⟩
theorem run_step (cs:List Cm) {k:Nat} {c:Cm} (h:cs[k]? = some c):runS (cs.take (k + 1)) = rstep (runS (cs.take k)) c:=by
 unfold runS
 rw [List.take_add_one,h,List.foldl_append]; rfl
theorem allR_of {next:Int}:∀ (l:List Od) (last:Int),(∀ o ∈ l,ordB o = true∧last < o.id∧o.id < next)→cy l→allR next last l = true
 | [],_,_,_=>rfl
 | a :: r,last,h,hr=>by
  obtain ⟨Q,D,X⟩:=h a (by simp)
  obtain ⟨p1,p2⟩:=List.pairwise_cons.1 hr
  rw [allR,Q,decide_eq_true D,decide_eq_true X,allR_of r a.id (fun o Y=>⟨(h o (by simp [Y])).1,p1 o Y,(h o (by simp [Y])).2.2⟩) p2]
  rfl
end Go.Proofs.YthhkapcbocgcoaaGreatDoor
